/-
  Plain arithmetic, no program: rounding down ('fl') and up ('ce') of n by d; how Go's division that cuts toward 0 comes to them.
  Plain arithmetic of spans, no program: what is made of two spans (the least and the greatest of four), by way of each pair of ends, and at once; what is in both is in what is made of them.
  Plain arithmetic of powers, no program: a number from 0 on with itself so many times, downward and upward; how far a span is from 0; its middle; a power of a span; what of a number of a span is in them.
  Plain arithmetic of powers, no program: a number from 0 on with itself so many times, downward and upward, each by 'times' of the thousandths; an end of a span so; and that a power made of ends so is the power of the span.
  Plain arithmetic of polynomials of one unknown, no program: what is wrong with one; its range over a span from the last factor on, and by powers; its slope; what it is at a number of the span is in both ranges.
  Plain arithmetic of polynomials of one unknown by powers, no program: what it is at a number of the span is in its range by powers.
  Plain arithmetic of slopes, no program: a polynomial's range from the last factor on has what it is at each part of a number, too; between two numbers it changes by what its slope is there (Simpson's rule, which is exact up to the power 4): so the range from the middle has all.
  Plain arithmetic of polynomials of one unknown, as the code makes them, no program: from the last factor on, begun with 0; so many terms added up; the factors of the slope.
  Plain arithmetic of what a small polynomial is without rounding, as the document's answer makes it, no program.
  Plain arithmetic of ranges from the middle, no program: the slope over a span, the range from the middle, the best of three; that they have what the polynomial is, and so always meet.
  Plain arithmetic of polynomials that go up or down alone, no program: the way of a slope; the range by the ends; what it is is in it.
  Plain arithmetic of where it may be nought, no program: spans parted at their middle, as long as they are wider than so much and 0 is in the range; that nothing which may be nought is lost; how many there are of a line.
  Plain arithmetic of where a polynomial may be nought, no program: by its range over spans that are parted; where it is nought is told; where it is sure to be it is told; of a line.
  Plain arithmetic of a span in pieces, no program: where the pieces end; that each number is in one; the range over all; what it is is in it.
  Plain arithmetic of a span's pieces as a list, no program.
  Plain arithmetic of the range over pieces, one behind the other, no program.
  Plain arithmetic of what pieces have, no program.
  Plain arithmetic of Newton's step, no program: where a polynomial is nought is in what a step tells, for any number m of the span that it goes from.
  Plain arithmetic of package root, no program: what May, Find and Sure answer to anything; that no root is lost; of a line.
  Plain arithmetic of Newton's steps, no program: what a step tells, and so many; that it is within, and no root is lost; of a line.
  Plain arithmetic of Newton's steps as the code makes them, no program: how far away, and a step.
-/
import Init
namespace Um
set_option linter.unusedSimpArgs false
/-- n by d, rounded down. -/
def fl (n d : Int) : Int := if 0 < d then n / d else (-n) / (-d)
/-- n by d, rounded up. -/
def ce (n d : Int) : Int := -(fl (-n) d)
/-- May a number be? -/
def may (n : Int) : Bool := decide (-1000000000 ≤ n) && decide (n ≤ 1000000000)

theorem may_iff (n : Int) : may n = true ↔ -1000000000 ≤ n ∧ n ≤ 1000000000 := by simp [may]
theorem may_not (n : Int) : may n = false ↔ ¬ (-1000000000 ≤ n ∧ n ≤ 1000000000) := by
  rw [← may_iff]; cases may n <;> simp

theorem ediv_of {n c p r : Int} (hc : 0 < c) (h : n = c * p + r) (h0 : 0 ≤ r) (h1 : r < c) : n / c = p :=
  ((Int.ediv_emod_unique hc).2 ⟨by rw [h]; omega, h0, h1⟩).1

theorem tparts (n c : Int) (hc : 0 < c) : n = c * n.tdiv c + n.tmod c ∧ -c < n.tmod c ∧ n.tmod c < c :=
  ⟨(Int.mul_tdiv_add_tmod n c).symm, Int.lt_tmod_of_pos n hc, Int.tmod_lt_of_pos n hc⟩

theorem pos_zero {n c : Int} (hc : 0 < c) (h : n.tmod c = 0) : n / c = n.tdiv c ∧ (-n) / c = -(n.tdiv c) := by
  obtain ⟨h1, _, _⟩ := tparts n c hc
  generalize n.tdiv c = p at *
  generalize n.tmod c = r at *
  subst h
  exact ⟨ediv_of hc h1 (by omega) hc, ediv_of hc (r := 0) (by rw [h1, Int.mul_neg]; omega) (by omega) hc⟩
theorem pos_up {n c : Int} (hc : 0 < c) (h : 0 < n.tmod c) : n / c = n.tdiv c ∧ (-n) / c = -(n.tdiv c) - 1 := by
  obtain ⟨h1, _, h3⟩ := tparts n c hc
  generalize n.tdiv c = p at *
  generalize n.tmod c = r at *
  exact ⟨ediv_of hc h1 (by omega) h3, ediv_of hc (r := c - r) (by rw [h1, Int.mul_sub, Int.mul_neg]; omega) (by omega) (by omega)⟩
theorem pos_down {n c : Int} (hc : 0 < c) (h : n.tmod c < 0) : n / c = n.tdiv c - 1 ∧ (-n) / c = -(n.tdiv c) := by
  obtain ⟨h1, h2, _⟩ := tparts n c hc
  generalize n.tdiv c = p at *
  generalize n.tmod c = r at *
  exact ⟨ediv_of hc (r := c + r) (by rw [h1, Int.mul_sub]; omega) (by omega) (by omega), ediv_of hc (r := -r) (by rw [h1, Int.mul_neg]; omega) (by omega) (by omega)⟩

theorem fl_pos {n d : Int} (h : 0 < d) : fl n d = n / d := by simp [fl, h]
theorem fl_neg {n d : Int} (h : d < 0) : fl n d = (-n) / (-d) := by
  have : ¬ 0 < d := by omega
  simp [fl, this]
theorem ce_pos {n d : Int} (h : 0 < d) : ce n d = -((-n) / d) := by simp [ce, fl_pos h]
theorem ce_neg {n d : Int} (h : d < 0) : ce n d = -(n / (-d)) := by simp [ce, fl_neg h]

theorem neg_tdiv {n d : Int} : n.tdiv (-d) = -(n.tdiv d) := by simp
theorem neg_tmod {n d : Int} : n.tmod (-d) = n.tmod d := by simp

theorem way_zero {n d : Int} (hd : ¬ d = 0) (h : (n.tmod d == 0) = true) : fl n d = n.tdiv d ∧ ce n d = n.tdiv d := by
  have h0 : n.tmod d = 0 := by simpa using h
  rcases (by omega : 0 < d ∨ d < 0) with hp | hn
  · obtain ⟨a, b⟩ := pos_zero hp h0
    rw [fl_pos hp, ce_pos hp, a, b]; exact ⟨rfl, by omega⟩
  · have h0' : n.tmod (-d) = 0 := by rw [neg_tmod]; exact h0
    obtain ⟨a, b⟩ := pos_zero (c := -d) (by omega) h0'
    rw [fl_neg hn, ce_neg hn, a, b, neg_tdiv]; exact ⟨by omega, by omega⟩
theorem way_down {n d : Int} (hd : ¬ d = 0) (h : (n.tmod d == 0) = false) (h2 : (!(decide (n.tmod d < 0) == decide (d < 0))) = true) : fl n d = n.tdiv d - 1 ∧ ce n d = n.tdiv d := by
  have h0 : ¬ n.tmod d = 0 := by simpa using h
  rcases (by omega : 0 < d ∨ d < 0) with hp | hn
  · have hs : n.tmod d < 0 := by
      have : ¬ d < 0 := by omega
      simp [this] at h2; omega
    obtain ⟨a, b⟩ := pos_down hp hs
    rw [fl_pos hp, ce_pos hp, a, b]; exact ⟨rfl, by omega⟩
  · have hs : 0 < n.tmod (-d) := by
      simp [hn] at h2; rw [neg_tmod]; omega
    obtain ⟨a, b⟩ := pos_up (c := -d) (by omega) hs
    rw [fl_neg hn, ce_neg hn, a, b, neg_tdiv]; exact ⟨by omega, by omega⟩
theorem way_up {n d : Int} (hd : ¬ d = 0) (h : (n.tmod d == 0) = false) (h2 : (!(decide (n.tmod d < 0) == decide (d < 0))) = false) : fl n d = n.tdiv d ∧ ce n d = n.tdiv d + 1 := by
  have h0 : ¬ n.tmod d = 0 := by simpa using h
  rcases (by omega : 0 < d ∨ d < 0) with hp | hn
  · have hs : 0 < n.tmod d := by
      have : ¬ d < 0 := by omega
      simp [this] at h2; omega
    obtain ⟨a, b⟩ := pos_up hp hs
    rw [fl_pos hp, ce_pos hp, a, b]; exact ⟨rfl, by omega⟩
  · have hs : n.tmod (-d) < 0 := by
      simp [hn] at h2; rw [neg_tmod]; omega
    obtain ⟨a, b⟩ := pos_down (c := -d) (by omega) hs
    rw [fl_neg hn, ce_neg hn, a, b, neg_tdiv]; exact ⟨by omega, by omega⟩

theorem tdiv_le (n d : Int) (B : Nat) (h1 : -(B : Int) ≤ n) (h2 : n ≤ B) : -(B : Int) ≤ n.tdiv d ∧ n.tdiv d ≤ B := by
  have h := Int.natAbs_tdiv n d
  have h3 : (n.tdiv d).natAbs ≤ n.natAbs := by rw [h]; exact Nat.div_le_self _ _
  omega

/-- What is told of rounding down, by a number above 0. -/
theorem fl_spec_pos {n d : Int} (h : 0 < d) : d * fl n d ≤ n ∧ n < d * fl n d + d := by
  rw [fl_pos h]
  have h1 := Int.mul_ediv_add_emod n d
  have h2 := Int.emod_nonneg n (by omega : d ≠ 0)
  have h3 := Int.emod_lt_of_pos n h
  omega
theorem ce_spec_pos {n d : Int} (h : 0 < d) : n ≤ d * ce n d ∧ d * ce n d < n + d := by
  have := fl_spec_pos (n := -n) h
  unfold ce
  rw [Int.mul_neg]; omega
theorem fl_spec_neg {n d : Int} (h : d < 0) : n ≤ d * fl n d ∧ d * fl n d < n - d := by
  have h1 := fl_spec_pos (n := -n) (d := -d) (by omega)
  rw [fl_pos (by omega)] at h1
  rw [fl_neg h]
  rw [Int.neg_mul] at h1
  omega
theorem ce_spec_neg {n d : Int} (h : d < 0) : d * ce n d ≤ n ∧ n + d < d * ce n d := by
  have := fl_spec_neg (n := -n) h
  unfold ce
  rw [Int.mul_neg]; omega
theorem fl_le_ce (n d : Int) (hd : ¬ d = 0) : fl n d ≤ ce n d ∧ ce n d ≤ fl n d + 1 := by
  by_cases h : n.tmod d = 0
  · obtain ⟨a, b⟩ := way_zero hd (by simpa using h)
    omega
  · have h' : (n.tmod d == 0) = false := by simpa using h
    cases h2 : (!(decide (n.tmod d < 0) == decide (d < 0)))
    · obtain ⟨a, b⟩ := way_up hd h' h2; omega
    · obtain ⟨a, b⟩ := way_down hd h' h2; omega

/-- The numbers next to n by d, if both may be; else error 4. -/
def nextR (n d : Int) : Int × Int × Int := if may (fl n d) = true ∧ may (ce n d) = true then (fl n d, ce n d, 0) else (0, 0, 4)
def timesR (a b : Int) : Int × Int × Int := if may a = true ∧ may b = true then nextR (a * b) 1000 else (0, 0, 1)
def byR (a b : Int) : Int × Int × Int := if may a = true ∧ may b = true then (if b = 0 then (0, 0, 8) else nextR (a * 1000) b) else (0, 0, 1)
theorem mul_bound {a b : Int} (ha : may a = true) (hb : may b = true) : -1000000000000000000 ≤ a * b ∧ a * b ≤ 1000000000000000000 := by
  have ha := (may_iff a).1 ha
  have hb := (may_iff b).1 hb
  have h : (a * b).natAbs = a.natAbs * b.natAbs := Int.natAbs_mul a b
  have h2 : a.natAbs * b.natAbs ≤ 1000000000 * 1000000000 := Nat.mul_le_mul (by omega) (by omega)
  omega
end Um
namespace Um
set_option linter.unusedSimpArgs false
/-- A span that fits, or none and error 4. -/
def fit (lo hi : Int) : Int × Int × Int := if may lo = true ∧ may hi = true then (lo, hi, 0) else (0, 0, 4)
/-- What is wrong with a span. -/
def chk (lo hi : Int) : Int := if may lo = true ∧ may hi = true then (if hi < lo then 3 else 0) else 1
def two (al ah bl bh : Int) : Int := if chk al ah = 0 then chk bl bh else chk al ah
def mn4 (a b c d : Int) : Int := min (min (min a b) c) d
def mx4 (a b c d : Int) : Int := max (max (max a b) c) d
/-- The outcome of four pairs of ends, one behind the other: the first error, or the least lower one and the greatest upper one. -/
def seq4 (r0 r1 r2 r3 : Int × Int × Int) : Int × Int × Int :=
  if r0.2.2 ≠ 0 then (0, 0, r0.2.2) else if r1.2.2 ≠ 0 then (0, 0, r1.2.2) else if r2.2.2 ≠ 0 then (0, 0, r2.2.2) else if r3.2.2 ≠ 0 then (0, 0, r3.2.2)
  else (mn4 r0.1 r1.1 r2.1 r3.1, mx4 r0.2.1 r1.2.1 r2.2.1 r3.2.1, 0)
def addR (al ah bl bh : Int) : Int × Int × Int := fit (al + bl) (ah + bh)
def lessR (al ah bl bh : Int) : Int × Int × Int := fit (al - bh) (ah - bl)
def stimesR (al ah bl bh : Int) : Int × Int × Int := fit (fl (mn4 (al * bl) (al * bh) (ah * bl) (ah * bh)) 1000) (ce (mx4 (al * bl) (al * bh) (ah * bl) (ah * bh)) 1000)
def sbyR (al ah bl bh : Int) : Int × Int × Int := if bl ≤ 0 ∧ 0 ≤ bh then (0, 0, 8) else
  fit (mn4 (fl (al * 1000) bl) (fl (al * 1000) bh) (fl (ah * 1000) bl) (fl (ah * 1000) bh)) (mx4 (ce (al * 1000) bl) (ce (al * 1000) bh) (ce (ah * 1000) bl) (ce (ah * 1000) bh))
def hullR (al ah bl bh : Int) : Int × Int × Int := (min al bl, max ah bh, 0)
def meetR (al ah bl bh : Int) : Int × Int × Int := if max al bl ≤ min ah bh then (max al bl, min ah bh, 0) else (0, 0, 5)
/-- What is made of two spans, whatever they are: first what is wrong with them. -/
def made (R : Int × Int × Int) (al ah bl bh : Int) : Int × Int × Int := if two al ah bl bh = 0 then R else (0, 0, two al ah bl bh)

theorem chk_ok {lo hi : Int} : chk lo hi = 0 ↔ may lo = true ∧ may hi = true ∧ lo ≤ hi := by
  unfold chk
  by_cases h : may lo = true ∧ may hi = true
  · rw [if_pos h]
    by_cases h2 : hi < lo
    · rw [if_pos h2]; constructor
      · intro h3; omega
      · intro h3; omega
    · rw [if_neg h2]; exact ⟨fun _ => ⟨h.1, h.2, by omega⟩, fun _ => rfl⟩
  · rw [if_neg h]; constructor
    · intro h3; omega
    · intro h3; exact absurd ⟨h3.1, h3.2.1⟩ h
theorem two_ok {al ah bl bh : Int} : two al ah bl bh = 0 ↔ chk al ah = 0 ∧ chk bl bh = 0 := by
  unfold two
  by_cases h : chk al ah = 0
  · rw [if_pos h]; exact ⟨fun h2 => ⟨h, h2⟩, fun h2 => h2.2⟩
  · rw [if_neg h]; exact ⟨fun h2 => absurd h2 h, fun h2 => absurd h2.1 h⟩

theorem chk_big {lo hi : Int} (h : (!may lo || !may hi) = true) : chk lo hi = 1 := by
  unfold chk
  rw [if_neg]
  intro hh
  rw [hh.1, hh.2] at h
  cases h
theorem chk_may {lo hi : Int} (h : (!may lo || !may hi) = false) : may lo = true ∧ may hi = true := by
  cases h1 : may lo <;> cases h2 : may hi <;> rw [h1, h2] at h <;> first | exact ⟨rfl, rfl⟩ | cases h
theorem chk_turned {lo hi : Int} (h : (!may lo || !may hi) = false) (h2 : hi < lo) : chk lo hi = 3 := by
  unfold chk; rw [if_pos (chk_may h), if_pos h2]
theorem chk_right {lo hi : Int} (h : (!may lo || !may hi) = false) (h2 : ¬ hi < lo) : chk lo hi = 0 := by
  unfold chk; rw [if_pos (chk_may h), if_neg h2]

theorem fit_no {lo hi : Int} (h : (!may lo || !may hi) = true) : fit lo hi = (0, 0, 4) := by
  unfold fit
  rw [if_neg]
  intro hh
  rw [hh.1, hh.2] at h
  cases h
theorem fit_yes {lo hi : Int} (h : (!may lo || !may hi) = false) : fit lo hi = (lo, hi, 0) := by
  unfold fit; rw [if_pos (chk_may h)]
theorem made_good {R : Int × Int × Int} {al ah bl bh : Int} (h1 : chk al ah = 0) (h2 : chk bl bh = 0) : made R al ah bl bh = R := by
  unfold made; rw [if_pos (two_ok.2 ⟨h1, h2⟩)]
theorem made_first {R : Int × Int × Int} {al ah bl bh : Int} (h1 : ¬ chk al ah = 0) : made R al ah bl bh = (0, 0, chk al ah) := by
  have e : two al ah bl bh = chk al ah := by unfold two; rw [if_neg h1]
  unfold made; rw [e, if_neg h1]
theorem made_second {R : Int × Int × Int} {al ah bl bh : Int} (h1 : chk al ah = 0) (h2 : ¬ chk bl bh = 0) : made R al ah bl bh = (0, 0, chk bl bh) := by
  have e : two al ah bl bh = chk bl bh := by unfold two; rw [if_pos h1]
  unfold made; rw [e, if_neg h2]
theorem meet_yes {al ah bl bh : Int} (h : max al bl ≤ min ah bh) : meetR al ah bl bh = (max al bl, min ah bh, 0) := by unfold meetR; rw [if_pos h]
theorem meet_no {al ah bl bh : Int} (h : ¬ max al bl ≤ min ah bh) : meetR al ah bl bh = (0, 0, 5) := by unfold meetR; rw [if_neg h]

theorem next_yes {n d : Int} (h1 : may (fl n d) = true) (h2 : may (ce n d) = true) : nextR n d = (fl n d, ce n d, 0) := by simp [nextR, h1, h2]
theorem next_no {n d : Int} (h : ¬ (may (fl n d) = true ∧ may (ce n d) = true)) : nextR n d = (0, 0, 4) := by simp only [nextR, if_neg h]

/-- By way of each pair, or at once: the same. -/
theorem seq_next (n0 n1 n2 n3 d0 d1 d2 d3 : Int) (h0 : ¬ d0 = 0) (h1 : ¬ d1 = 0) (h2 : ¬ d2 = 0) (h3 : ¬ d3 = 0) :
    seq4 (nextR n0 d0) (nextR n1 d1) (nextR n2 d2) (nextR n3 d3) = fit (mn4 (fl n0 d0) (fl n1 d1) (fl n2 d2) (fl n3 d3)) (mx4 (ce n0 d0) (ce n1 d1) (ce n2 d2) (ce n3 d3)) := by
  have k0 := (fl_le_ce n0 d0 h0).1
  have k1 := (fl_le_ce n1 d1 h1).1
  have k2 := (fl_le_ce n2 d2 h2).1
  have k3 := (fl_le_ce n3 d3 h3).1
  have out : ∀ (a b c d a' b' c' d' : Int), a ≤ a' → b ≤ b' → c ≤ c' → d ≤ d' → (¬ (may a = true ∧ may a' = true) ∨ ¬ (may b = true ∧ may b' = true) ∨ ¬ (may c = true ∧ may c' = true) ∨ ¬ (may d = true ∧ may d' = true)) →
      fit (mn4 a b c d) (mx4 a' b' c' d') = (0, 0, 4) := by
    intro a b c d a' b' c' d' e0 e1 e2 e3 h
    unfold fit
    rw [if_neg]
    simp only [may_iff] at h ⊢
    unfold mn4 mx4
    omega
  by_cases c0 : may (fl n0 d0) = true ∧ may (ce n0 d0) = true
  · by_cases c1 : may (fl n1 d1) = true ∧ may (ce n1 d1) = true
    · by_cases c2 : may (fl n2 d2) = true ∧ may (ce n2 d2) = true
      · by_cases c3 : may (fl n3 d3) = true ∧ may (ce n3 d3) = true
        · rw [next_yes c0.1 c0.2, next_yes c1.1 c1.2, next_yes c2.1 c2.2, next_yes c3.1 c3.2]
          simp only [may_iff] at c0 c1 c2 c3
          have : may (mn4 (fl n0 d0) (fl n1 d1) (fl n2 d2) (fl n3 d3)) = true ∧ may (mx4 (ce n0 d0) (ce n1 d1) (ce n2 d2) (ce n3 d3)) = true := by
            simp only [may_iff]; unfold mn4 mx4; omega
          simp [seq4, fit, this]
        · rw [next_yes c0.1 c0.2, next_yes c1.1 c1.2, next_yes c2.1 c2.2, next_no c3, out _ _ _ _ _ _ _ _ k0 k1 k2 k3 (.inr (.inr (.inr c3)))]; simp [seq4]
      · rw [next_yes c0.1 c0.2, next_yes c1.1 c1.2, next_no c2, out _ _ _ _ _ _ _ _ k0 k1 k2 k3 (.inr (.inr (.inl c2)))]; simp [seq4]
    · rw [next_yes c0.1 c0.2, next_no c1, out _ _ _ _ _ _ _ _ k0 k1 k2 k3 (.inr (.inl c1))]; simp [seq4]
  · rw [next_no c0, out _ _ _ _ _ _ _ _ k0 k1 k2 k3 (.inl c0)]; simp [seq4]

theorem fl_mono {m n d : Int} (hd : 0 < d) (h : m ≤ n) : fl m d ≤ fl n d := by rw [fl_pos hd, fl_pos hd]; exact Int.ediv_le_ediv hd h
theorem ce_mono {m n d : Int} (hd : 0 < d) (h : m ≤ n) : ce m d ≤ ce n d := by
  unfold ce
  have := fl_mono hd (show -n ≤ -m by omega)
  omega
theorem fl_min (d a b : Int) (hd : 0 < d) : fl (min a b) d = min (fl a d) (fl b d) := by
  rcases Int.le_total a b with h | h
  · have := fl_mono hd h
    rw [show min a b = a by omega]; omega
  · have := fl_mono hd h
    rw [show min a b = b by omega]; omega
theorem ce_max (d a b : Int) (hd : 0 < d) : ce (max a b) d = max (ce a d) (ce b d) := by
  rcases Int.le_total a b with h | h
  · have := ce_mono hd h
    rw [show max a b = b by omega]; omega
  · have := ce_mono hd h
    rw [show max a b = a by omega]; omega
theorem fl_mn4 (d a b c e : Int) (hd : 0 < d) : fl (mn4 a b c e) d = mn4 (fl a d) (fl b d) (fl c d) (fl e d) := by
  unfold mn4; rw [fl_min _ _ _ hd, fl_min _ _ _ hd, fl_min _ _ _ hd]
theorem ce_mx4 (d a b c e : Int) (hd : 0 < d) : ce (mx4 a b c e) d = mx4 (ce a d) (ce b d) (ce c d) (ce e d) := by
  unfold mx4; rw [ce_max _ _ _ hd, ce_max _ _ _ hd, ce_max _ _ _ hd]

theorem stimes_seq {al ah bl bh : Int} (h1 : may al = true) (h2 : may ah = true) (h3 : may bl = true) (h4 : may bh = true) :
    seq4 (timesR al bl) (timesR al bh) (timesR ah bl) (timesR ah bh) = stimesR al ah bl bh := by
  have e : ∀ x y, may x = true → may y = true → timesR x y = nextR (x * y) 1000 := fun x y hx hy => by simp [timesR, hx, hy]
  rw [e _ _ h1 h3, e _ _ h1 h4, e _ _ h2 h3, e _ _ h2 h4, seq_next _ _ _ _ _ _ _ _ (by decide) (by decide) (by decide) (by decide)]
  unfold stimesR
  rw [fl_mn4 _ _ _ _ _ (by decide), ce_mx4 _ _ _ _ _ (by decide)]
theorem sby_seq {al ah bl bh : Int} (h1 : may al = true) (h2 : may ah = true) (h3 : may bl = true) (h4 : may bh = true) (hb : bl ≤ bh) (hz : ¬ (bl ≤ 0 ∧ 0 ≤ bh)) :
    seq4 (byR al bl) (byR al bh) (byR ah bl) (byR ah bh) = sbyR al ah bl bh := by
  have z1 : ¬ bl = 0 := by omega
  have z2 : ¬ bh = 0 := by omega
  have e : ∀ x y, may x = true → may y = true → ¬ y = 0 → byR x y = nextR (x * 1000) y := fun x y hx hy hy0 => by simp [byR, hx, hy, hy0]
  rw [e _ _ h1 h3 z1, e _ _ h1 h4 z2, e _ _ h2 h3 z1, e _ _ h2 h4 z2, seq_next _ _ _ _ _ _ _ _ z1 z2 z1 z2]
  unfold sbyR
  rw [if_neg hz]

/-- A number times what lies between two lies between both products. -/
theorem lin_le {c l h y m : Int} (h1 : l ≤ y) (h2 : y ≤ h) (a : c * l ≤ m) (b : c * h ≤ m) : c * y ≤ m := by
  rcases Int.le_total 0 c with hc | hc
  · exact Int.le_trans (Int.mul_le_mul_of_nonneg_left h2 hc) b
  · exact Int.le_trans (Int.mul_le_mul_of_nonpos_left hc h1) a
theorem le_lin {c l h y m : Int} (h1 : l ≤ y) (h2 : y ≤ h) (a : m ≤ c * l) (b : m ≤ c * h) : m ≤ c * y := by
  rcases Int.le_total 0 c with hc | hc
  · exact Int.le_trans a (Int.mul_le_mul_of_nonneg_left h1 hc)
  · exact Int.le_trans b (Int.mul_le_mul_of_nonpos_left hc h2)
theorem corners {al ah bl bh x y : Int} (h1 : al ≤ x) (h2 : x ≤ ah) (h3 : bl ≤ y) (h4 : y ≤ bh) :
    mn4 (al * bl) (al * bh) (ah * bl) (ah * bh) ≤ x * y ∧ x * y ≤ mx4 (al * bl) (al * bh) (ah * bl) (ah * bh) := by
  constructor
  · refine le_lin h3 h4 ?_ ?_
    · rw [Int.mul_comm x]; refine le_lin h1 h2 ?_ ?_ <;> rw [Int.mul_comm bl] <;> unfold mn4 <;> omega
    · rw [Int.mul_comm x]; refine le_lin h1 h2 ?_ ?_ <;> rw [Int.mul_comm bh] <;> unfold mn4 <;> omega
  · refine lin_le h3 h4 ?_ ?_
    · rw [Int.mul_comm x]; refine lin_le h1 h2 ?_ ?_ <;> rw [Int.mul_comm bl] <;> unfold mx4 <;> omega
    · rw [Int.mul_comm x]; refine lin_le h1 h2 ?_ ?_ <;> rw [Int.mul_comm bh] <;> unfold mx4 <;> omega

theorem fit_cases (lo hi : Int) : (fit lo hi = (0, 0, 4)) ∨ (fit lo hi = (lo, hi, 0) ∧ may lo = true ∧ may hi = true) := by
  unfold fit
  by_cases h : may lo = true ∧ may hi = true
  · rw [if_pos h]; exact .inr ⟨rfl, h.1, h.2⟩
  · rw [if_neg h]; exact .inl rfl

/-- What is in both, times each other, is in what is told. -/
theorem stimes_has {al ah bl bh x y : Int} (h1 : al ≤ x) (h2 : x ≤ ah) (h3 : bl ≤ y) (h4 : y ≤ bh) (h : (stimesR al ah bl bh).2.2 = 0) :
    may (stimesR al ah bl bh).1 = true ∧ may (stimesR al ah bl bh).2.1 = true ∧ (stimesR al ah bl bh).1 * 1000 ≤ x * y ∧ x * y ≤ (stimesR al ah bl bh).2.1 * 1000 := by
  have hc := corners h1 h2 h3 h4
  unfold stimesR at h ⊢
  generalize mn4 (al * bl) (al * bh) (ah * bl) (ah * bh) = mn at *
  generalize mx4 (al * bl) (al * bh) (ah * bl) (ah * bh) = mx at *
  have s1 := fl_spec_pos (n := mn) (d := 1000) (by decide)
  have s2 := ce_spec_pos (n := mx) (d := 1000) (by decide)
  rcases fit_cases (fl mn 1000) (ce mx 1000) with e | ⟨e, m1, m2⟩
  · rw [e] at h; exact absurd h (by decide)
  · rw [e]; exact ⟨m1, m2, by show fl mn 1000 * 1000 ≤ _; omega, by show _ ≤ ce mx 1000 * 1000; omega⟩

theorem mn4_le (a b c d : Int) : mn4 a b c d ≤ a ∧ mn4 a b c d ≤ b ∧ mn4 a b c d ≤ c ∧ mn4 a b c d ≤ d := by unfold mn4; omega
theorem le_mx4 (a b c d : Int) : a ≤ mx4 a b c d ∧ b ≤ mx4 a b c d ∧ c ≤ mx4 a b c d ∧ d ≤ mx4 a b c d := by unfold mx4; omega
theorem low_pos {q n d : Int} (hd : 0 < d) (h : q ≤ fl n d) : q * d ≤ n := by
  have h1 := (fl_spec_pos (n := n) hd).1
  have h2 := Int.mul_le_mul_of_nonneg_left h (Int.le_of_lt hd)
  rw [Int.mul_comm q]; omega
theorem high_pos {q n d : Int} (hd : 0 < d) (h : ce n d ≤ q) : n ≤ q * d := by
  have h1 := (ce_spec_pos (n := n) hd).1
  have h2 := Int.mul_le_mul_of_nonneg_left h (Int.le_of_lt hd)
  rw [Int.mul_comm q]; omega
theorem low_neg {q n d : Int} (hd : d < 0) (h : q ≤ fl n d) : n ≤ q * d := by
  have h1 := (fl_spec_neg (n := n) hd).1
  have h2 := Int.mul_le_mul_of_nonpos_left (Int.le_of_lt hd) h
  rw [Int.mul_comm q]; omega
theorem high_neg {q n d : Int} (hd : d < 0) (h : ce n d ≤ q) : q * d ≤ n := by
  have h1 := (ce_spec_neg (n := n) hd).1
  have h2 := Int.mul_le_mul_of_nonpos_left (Int.le_of_lt hd) h
  rw [Int.mul_comm q]; omega

/-- What is in both, by each other, is in what is told. -/
theorem sby_has {al ah bl bh x y : Int} (h1 : al ≤ x) (h2 : x ≤ ah) (h3 : bl ≤ y) (h4 : y ≤ bh) (h : (sbyR al ah bl bh).2.2 = 0) :
    may (sbyR al ah bl bh).1 = true ∧ may (sbyR al ah bl bh).2.1 = true ∧
      ((0 < y ∧ (sbyR al ah bl bh).1 * y ≤ 1000 * x ∧ 1000 * x ≤ (sbyR al ah bl bh).2.1 * y) ∨ (y < 0 ∧ 1000 * x ≤ (sbyR al ah bl bh).1 * y ∧ (sbyR al ah bl bh).2.1 * y ≤ 1000 * x)) := by
  unfold sbyR at h ⊢
  by_cases hz : bl ≤ 0 ∧ 0 ≤ bh
  · rw [if_pos hz] at h; exact absurd h (by decide)
  rw [if_neg hz] at h ⊢
  obtain ⟨q0, q1, q2, q3⟩ := mn4_le (fl (al * 1000) bl) (fl (al * 1000) bh) (fl (ah * 1000) bl) (fl (ah * 1000) bh)
  obtain ⟨p0, p1, p2, p3⟩ := le_mx4 (ce (al * 1000) bl) (ce (al * 1000) bh) (ce (ah * 1000) bl) (ce (ah * 1000) bh)
  generalize mn4 (fl (al * 1000) bl) (fl (al * 1000) bh) (fl (ah * 1000) bl) (fl (ah * 1000) bh) = q at *
  generalize mx4 (ce (al * 1000) bl) (ce (al * 1000) bh) (ce (ah * 1000) bl) (ce (ah * 1000) bh) = p at *
  rcases fit_cases q p with e | ⟨e, m1, m2⟩
  · rw [e] at h; exact absurd h (by decide)
  rw [e]
  refine ⟨m1, m2, ?_⟩
  show (0 < y ∧ q * y ≤ 1000 * x ∧ 1000 * x ≤ p * y) ∨ (y < 0 ∧ 1000 * x ≤ q * y ∧ p * y ≤ 1000 * x)
  rcases (by omega : 0 < bl ∨ bh < 0) with hp | hn
  · have d1 := low_pos hp q0
    have d2 := low_pos (show 0 < bh by omega) q1
    have d3 := high_pos hp p2
    have d4 := high_pos (show 0 < bh by omega) p3
    have g1 := lin_le h3 h4 d1 d2
    have g2 := le_lin h3 h4 d3 d4
    exact .inl ⟨by omega, by omega, by omega⟩
  · have d1 := low_neg (show bl < 0 by omega) q2
    have d2 := low_neg hn q3
    have d3 := high_neg (show bl < 0 by omega) p0
    have d4 := high_neg hn p1
    have g1 := le_lin h3 h4 d1 d2
    have g2 := lin_le h3 h4 d3 d4
    exact .inr ⟨by omega, by omega, by omega⟩
end Um
namespace Um
set_option linter.unusedSimpArgs false
def ab (x : Int) : Int := if x < 0 then -x else x
/-- How far from 0: at least, and at most. -/
def farR (lo hi : Int) : Int × Int := (if lo ≤ 0 ∧ 0 ≤ hi then 0 else min (ab lo) (ab hi), max (ab lo) (ab hi))
def midR (lo hi : Int) : Int := fl (lo + hi) 2
/-- A number from 0 on, so many times: downward, upward; the fault. -/
def agR (n : Int) : Nat → Int × Int × Int
  | 0 => (1000, 1000, 0)
  | k + 1 => if (agR n k).2.2 = 0 then (if may (ce ((agR n k).2.1 * n) 1000) = true then (fl ((agR n k).1 * n) 1000, ce ((agR n k).2.1 * n) 1000, 0) else (0, 0, 4)) else (0, 0, 4)
theorem ag_succ (n : Int) (k : Nat) : agR n (k + 1) = if (agR n k).2.2 = 0 then (if may (ce ((agR n k).2.1 * n) 1000) = true then (fl ((agR n k).1 * n) 1000, ce ((agR n k).2.1 * n) 1000, 0) else (0, 0, 4)) else (0, 0, 4) := rfl
/-- Of an end: below 0 the negative of what its negative is the other way. -/
def endR (n : Int) (k : Nat) : Int × Int × Int := if 0 ≤ n then agR n k else (-(agR (-n) k).2.1, -(agR (-n) k).1, (agR (-n) k).2.2)
/-- The first fault of two, or the lower one of the first and the upper one of the second. -/
def both (a b : Int × Int × Int) : Int × Int × Int := if a.2.2 = 0 then (if b.2.2 = 0 then (a.1, b.2.1, 0) else (0, 0, b.2.2)) else (0, 0, a.2.2)
/-- A power of a span that is right. -/
def powR (lo hi : Int) (k : Nat) : Int × Int × Int :=
  if k % 2 = 0 then both (agR (farR lo hi).1 k) (agR (farR lo hi).2 k) else both (endR lo k) (endR hi k)

theorem ab_nonneg (x : Int) : 0 ≤ ab x := by unfold ab; split <;> omega
theorem ab_sq (x : Int) : ab x * ab x = x * x := by
  unfold ab; split
  · rw [Int.neg_mul_neg]
  · rfl
theorem far_has {lo hi x : Int} (h1 : lo ≤ x) (h2 : x ≤ hi) : (farR lo hi).1 ≤ ab x ∧ ab x ≤ (farR lo hi).2 := by
  unfold farR ab
  refine ⟨?_, ?_⟩
  · simp only []
    repeat' split
    all_goals omega
  · simp only []
    repeat' split
    all_goals omega
theorem far_right {lo hi : Int} (h : lo ≤ hi) : 0 ≤ (farR lo hi).1 ∧ (farR lo hi).1 ≤ (farR lo hi).2 := by
  unfold farR ab
  simp only []
  repeat' split
  all_goals omega
theorem far_may {lo hi : Int} (h1 : may lo = true) (h2 : may hi = true) : (farR lo hi).2 ≤ 1000000000 := by
  have a := (may_iff lo).1 h1
  have b := (may_iff hi).1 h2
  unfold farR ab
  simp only []
  repeat' split
  all_goals omega
theorem mid_has {lo hi : Int} (h : lo ≤ hi) : lo ≤ midR lo hi ∧ midR lo hi ≤ hi ∧ hi - midR lo hi - (midR lo hi - lo) ≤ 1 ∧ midR lo hi - lo ≤ hi - midR lo hi := by
  unfold midR
  have := fl_spec_pos (n := lo + hi) (d := 2) (by decide)
  omega

theorem fl_nonneg {n d : Int} (hd : 0 < d) (h : 0 ≤ n) : 0 ≤ fl n d := by
  rw [fl_pos hd]; exact Int.ediv_nonneg h (Int.le_of_lt hd)
theorem ag_fault (n : Int) (k : Nat) : (agR n k).2.2 = 0 ∨ agR n k = (0, 0, 4) := by
  cases k with
  | zero => exact .inl rfl
  | succ k =>
    rw [ag_succ]
    by_cases h : (agR n k).2.2 = 0
    · rw [if_pos h]
      by_cases h2 : may (ce ((agR n k).2.1 * n) 1000) = true
      · rw [if_pos h2]; exact .inl rfl
      · rw [if_neg h2]; exact .inr rfl
    · rw [if_neg h]; exact .inr rfl
/-- One time more. -/
theorem ag_step {n : Int} {k : Nat} (h : (agR n (k + 1)).2.2 = 0) :
    (agR n k).2.2 = 0 ∧ may (ce ((agR n k).2.1 * n) 1000) = true ∧ agR n (k + 1) = (fl ((agR n k).1 * n) 1000, ce ((agR n k).2.1 * n) 1000, 0) := by
  rw [ag_succ] at h ⊢
  by_cases h1 : (agR n k).2.2 = 0
  · rw [if_pos h1] at h ⊢
    by_cases h2 : may (ce ((agR n k).2.1 * n) 1000) = true
    · rw [if_pos h2]; exact ⟨h1, h2, rfl⟩
    · rw [if_neg h2] at h; exact absurd h (by decide)
  · rw [if_neg h1] at h; exact absurd h (by decide)
theorem ag_right {n : Int} (hn : 0 ≤ n) : ∀ (k : Nat), (agR n k).2.2 = 0 → 0 ≤ (agR n k).1 ∧ (agR n k).1 ≤ (agR n k).2.1 ∧ (agR n k).2.1 ≤ 1000000000
  | 0, _ => by show (0 : Int) ≤ 1000 ∧ (1000 : Int) ≤ 1000 ∧ (1000 : Int) ≤ 1000000000; decide
  | k + 1, h => by
    obtain ⟨h1, h2, e⟩ := ag_step h
    obtain ⟨i1, i2, _⟩ := ag_right hn k h1
    rw [e]
    have m := ((may_iff _).1 h2).2
    have a1 := Int.mul_nonneg i1 hn
    have a2 := Int.mul_le_mul_of_nonneg_right i2 hn
    have a3 := ce_mono (d := 1000) (by decide) a2
    have a4 := (fl_le_ce ((agR n k).1 * n) 1000 (by decide)).1
    exact ⟨fl_nonneg (d := 1000) (by decide) a1, Int.le_trans a4 a3, m⟩
theorem ag_one {n : Int} (hn : 0 ≤ n) (h : n ≤ 1000000000) : agR n 1 = (n, n, 0) := by
  have e1 : fl (1000 * n) 1000 = n := by rw [fl_pos (by decide)]; omega
  have e2 : ce (1000 * n) 1000 = n := by rw [ce_pos (by decide)]; omega
  have m : may n = true := (may_iff n).2 ⟨by omega, h⟩
  show (if (0 : Int) = 0 then (if may (ce (1000 * n) 1000) = true then (fl (1000 * n) 1000, ce (1000 * n) 1000, 0) else (0, 0, 4)) else (0, 0, 4)) = _
  rw [if_pos rfl, e1, e2, if_pos m]
theorem ag_two {n : Int} (hn : 0 ≤ n) (hm : n ≤ 1000000000) (h : (agR n 2).2.2 = 0) : (agR n 2).1 * 1000 ≤ n * n ∧ n * n ≤ (agR n 2).2.1 * 1000 := by
  obtain ⟨_, _, e⟩ := ag_step h
  rw [e, ag_one hn hm]
  have s1 := fl_spec_pos (n := n * n) (d := 1000) (by decide)
  have s2 := ce_spec_pos (n := n * n) (d := 1000) (by decide)
  exact ⟨by show fl (n * n) 1000 * 1000 ≤ _; omega, by show _ ≤ ce (n * n) 1000 * 1000; omega⟩
theorem ag_three {n : Int} (hn : 0 ≤ n) (hm : n ≤ 1000000000) (h : (agR n 3).2.2 = 0) : (agR n 3).1 * 1000000 ≤ n * n * n ∧ n * n * n ≤ (agR n 3).2.1 * 1000000 := by
  obtain ⟨h2, _, e⟩ := ag_step h
  obtain ⟨t1, t2⟩ := ag_two hn hm h2
  rw [e]
  generalize (agR n 2).1 = a at *
  generalize (agR n 2).2.1 = b at *
  have s1 := fl_spec_pos (n := a * n) (d := 1000) (by decide)
  have s2 := ce_spec_pos (n := b * n) (d := 1000) (by decide)
  have u1 := Int.mul_le_mul_of_nonneg_right t1 hn
  have u2 := Int.mul_le_mul_of_nonneg_right t2 hn
  have v1 : a * 1000 * n = 1000 * (a * n) := by rw [Int.mul_comm a 1000, Int.mul_assoc]
  have v2 : b * 1000 * n = 1000 * (b * n) := by rw [Int.mul_comm b 1000, Int.mul_assoc]
  rw [v1] at u1
  rw [v2] at u2
  exact ⟨by show fl (a * n) 1000 * 1000000 ≤ _; omega, by show _ ≤ ce (b * n) 1000 * 1000000; omega⟩

theorem sq_mono {a b : Int} (ha : 0 ≤ a) (h : a ≤ b) : a * a ≤ b * b := Int.mul_le_mul h h ha (Int.le_trans ha h)
theorem cube_mono_nonneg {a b : Int} (ha : 0 ≤ a) (h : a ≤ b) : a * a * a ≤ b * b * b :=
  Int.mul_le_mul (sq_mono ha h) h ha (Int.mul_nonneg (Int.le_trans ha h) (Int.le_trans ha h))
theorem cube_neg (a : Int) : (-a) * (-a) * (-a) = -(a * a * a) := by rw [Int.neg_mul_neg, Int.mul_neg]
theorem cube_sign {a : Int} (h : 0 ≤ a) : 0 ≤ a * a * a := Int.mul_nonneg (Int.mul_nonneg h h) h
theorem cube_mono {a b : Int} (h : a ≤ b) : a * a * a ≤ b * b * b := by
  rcases Int.le_total 0 a with ha | ha
  · exact cube_mono_nonneg ha h
  · rcases Int.le_total 0 b with hb | hb
    · have h1 := cube_sign (a := -a) (by omega)
      have h2 := cube_sign hb
      rw [cube_neg] at h1
      omega
    · have h1 := cube_mono_nonneg (a := -b) (b := -a) (by omega) (by omega)
      rw [cube_neg, cube_neg] at h1
      omega

theorem both_ok {a b : Int × Int × Int} (h : (both a b).2.2 = 0) : a.2.2 = 0 ∧ b.2.2 = 0 ∧ both a b = (a.1, b.2.1, 0) := by
  unfold both at h ⊢
  by_cases h1 : a.2.2 = 0
  · rw [if_pos h1] at h ⊢
    by_cases h2 : b.2.2 = 0
    · rw [if_pos h2]; exact ⟨h1, h2, rfl⟩
    · rw [if_neg h2] at h; exact absurd h h2
  · rw [if_neg h1] at h; exact absurd h h1
theorem both_fault {a b : Int × Int × Int} (h : ¬ (both a b).2.2 = 0) : (both a b).1 = 0 ∧ (both a b).2.1 = 0 := by
  unfold both at h ⊢
  by_cases h1 : a.2.2 = 0
  · rw [if_pos h1] at h ⊢
    by_cases h2 : b.2.2 = 0
    · rw [if_pos h2] at h; exact absurd rfl h
    · rw [if_neg h2]; exact ⟨rfl, rfl⟩
  · rw [if_neg h1]; exact ⟨rfl, rfl⟩

/-- Of an even power nothing is below 0. -/
theorem pow_even {lo hi : Int} {k : Nat} (hl : lo ≤ hi) (hk : k % 2 = 0) (h : (powR lo hi k).2.2 = 0) : 0 ≤ (powR lo hi k).1 := by
  unfold powR at h ⊢
  rw [if_pos hk] at h ⊢
  obtain ⟨h1, h2, e⟩ := both_ok h
  rw [e]
  exact (ag_right (far_right hl).1 k h1).1
/-- The square of a number of a span is in it. -/
theorem pow_two {lo hi x : Int} (m1 : may lo = true) (m2 : may hi = true) (h1 : lo ≤ x) (h2 : x ≤ hi) (h : (powR lo hi 2).2.2 = 0) :
    may (powR lo hi 2).1 = true ∧ may (powR lo hi 2).2.1 = true ∧ (powR lo hi 2).1 * 1000 ≤ x * x ∧ x * x ≤ (powR lo hi 2).2.1 * 1000 := by
  have hf := far_has h1 h2
  have hr := far_right (Int.le_trans h1 h2)
  have hm := far_may m1 m2
  unfold powR at h ⊢
  rw [if_pos (by decide)] at h ⊢
  obtain ⟨k1, k2, e⟩ := both_ok h
  rw [e]
  generalize (farR lo hi).1 = p at *
  generalize (farR lo hi).2 = q at *
  have a1 := ag_two hr.1 (by omega) k1
  have a2 := ag_two (n := q) (by omega) hm k2
  have r1 := ag_right hr.1 2 k1
  have r2 := ag_right (n := q) (by omega) 2 k2
  have g1 := sq_mono hr.1 hf.1
  have g2 := sq_mono (ab_nonneg x) hf.2
  rw [ab_sq] at g1 g2
  refine ⟨(may_iff _).2 ⟨?_, ?_⟩, (may_iff _).2 ⟨?_, ?_⟩, ?_, ?_⟩
  · show -1000000000 ≤ (agR p 2).1; omega
  · show (agR p 2).1 ≤ 1000000000; omega
  · show -1000000000 ≤ (agR q 2).2.1; omega
  · show (agR q 2).2.1 ≤ 1000000000; omega
  · show (agR p 2).1 * 1000 ≤ x * x; omega
  · show x * x ≤ (agR q 2).2.1 * 1000; omega

theorem end_three {n : Int} (hm : may n = true) (h : (endR n 3).2.2 = 0) :
    -1000000000 ≤ (endR n 3).1 ∧ (endR n 3).2.1 ≤ 1000000000 ∧ (endR n 3).1 ≤ (endR n 3).2.1 ∧ (endR n 3).1 * 1000000 ≤ n * n * n ∧ n * n * n ≤ (endR n 3).2.1 * 1000000 := by
  have hb := (may_iff n).1 hm
  unfold endR at h ⊢
  by_cases hn : 0 ≤ n
  · rw [if_pos hn] at h ⊢
    have r := ag_right hn 3 h
    have t := ag_three hn hb.2 h
    exact ⟨by omega, by omega, by omega, t.1, t.2⟩
  · rw [if_neg hn] at h ⊢
    have hn' : 0 ≤ -n := by omega
    have h' : (agR (-n) 3).2.2 = 0 := h
    have r := ag_right hn' 3 h'
    have t := ag_three hn' (by omega) h'
    rw [cube_neg] at t
    refine ⟨?_, ?_, ?_, ?_, ?_⟩
    · show -1000000000 ≤ -(agR (-n) 3).2.1; omega
    · show -(agR (-n) 3).1 ≤ 1000000000; omega
    · show -(agR (-n) 3).2.1 ≤ -(agR (-n) 3).1; omega
    · show -(agR (-n) 3).2.1 * 1000000 ≤ n * n * n; omega
    · show n * n * n ≤ -(agR (-n) 3).1 * 1000000; omega
/-- The third power of a number of a span is in it. -/
theorem pow_three {lo hi x : Int} (m1 : may lo = true) (m2 : may hi = true) (h1 : lo ≤ x) (h2 : x ≤ hi) (h : (powR lo hi 3).2.2 = 0) :
    (powR lo hi 3).1 ≤ fl (x * x * x) 1000000 ∧ ce (x * x * x) 1000000 ≤ (powR lo hi 3).2.1 := by
  unfold powR at h ⊢
  rw [if_neg (by decide)] at h ⊢
  obtain ⟨k1, k2, e⟩ := both_ok h
  rw [e]
  have t1 := (end_three m1 k1).2.2.2.1
  have t2 := (end_three m2 k2).2.2.2.2
  have c1 := cube_mono h1
  have c2 := cube_mono h2
  have s1 := fl_spec_pos (n := x * x * x) (d := 1000000) (by decide)
  have s2 := ce_spec_pos (n := x * x * x) (d := 1000000) (by decide)
  refine ⟨?_, ?_⟩
  · show (endR lo 3).1 ≤ fl (x * x * x) 1000000; omega
  · show ce (x * x * x) 1000000 ≤ (endR hi 3).2.1; omega
theorem pow_zero (lo hi : Int) : powR lo hi 0 = (1000, 1000, 0) := rfl
theorem pow_once {lo hi : Int} (m1 : may lo = true) (m2 : may hi = true) : powR lo hi 1 = (lo, hi, 0) := by
  have a := (may_iff lo).1 m1
  have b := (may_iff hi).1 m2
  have e : ∀ n, -1000000000 ≤ n → n ≤ 1000000000 → endR n 1 = (n, n, 0) := fun n h1 h2 => by
    unfold endR
    by_cases h : 0 ≤ n
    · rw [if_pos h, ag_one h h2]
    · rw [if_neg h, ag_one (n := -n) (by omega) (by omega)]; simp
  unfold powR
  rw [if_neg (by decide), e lo a.1 a.2, e hi b.1 b.2]
  rfl
end Um
namespace Um
set_option linter.unusedSimpArgs false
def dwR (x : Int) : Nat → Int × Int
  | 0 => (1000, 0)
  | k + 1 => if (dwR x k).2 = 0 then (if (timesR (dwR x k).1 x).2.2 = 0 then ((timesR (dwR x k).1 x).1, 0) else (0, (timesR (dwR x k).1 x).2.2)) else dwR x k
def upR (x : Int) : Nat → Int × Int
  | 0 => (1000, 0)
  | k + 1 => if (upR x k).2 = 0 then (if (timesR (upR x k).1 x).2.2 = 0 then ((timesR (upR x k).1 x).2.1, 0) else (0, (timesR (upR x k).1 x).2.2)) else upR x k
theorem dw_succ (x : Int) (k : Nat) : dwR x (k + 1) = if (dwR x k).2 = 0 then (if (timesR (dwR x k).1 x).2.2 = 0 then ((timesR (dwR x k).1 x).1, 0) else (0, (timesR (dwR x k).1 x).2.2)) else dwR x k := rfl
theorem up_succ (x : Int) (k : Nat) : upR x (k + 1) = if (upR x k).2 = 0 then (if (timesR (upR x k).1 x).2.2 = 0 then ((timesR (upR x k).1 x).2.1, 0) else (0, (timesR (upR x k).1 x).2.2)) else upR x k := rfl
theorem dw_go {x : Int} {k : Nat} (h : (dwR x k).2 = 0) (h2 : (timesR (dwR x k).1 x).2.2 = 0) : dwR x (k + 1) = ((timesR (dwR x k).1 x).1, 0) := by
  rw [dw_succ, if_pos h, if_pos h2]
theorem up_go {x : Int} {k : Nat} (h : (upR x k).2 = 0) (h2 : (timesR (upR x k).1 x).2.2 = 0) : upR x (k + 1) = ((timesR (upR x k).1 x).2.1, 0) := by
  rw [up_succ, if_pos h, if_pos h2]
theorem dw_stay {x : Int} {k : Nat} (h : ¬ (dwR x k).2 = 0) : ∀ m, dwR x (k + m) = dwR x k
  | 0 => rfl
  | m + 1 => by
    have i := dw_stay h m
    show dwR x (k + m + 1) = _
    rw [dw_succ, i, if_neg h]
theorem up_stay {x : Int} {k : Nat} (h : ¬ (upR x k).2 = 0) : ∀ m, upR x (k + m) = upR x k
  | 0 => rfl
  | m + 1 => by
    have i := up_stay h m
    show upR x (k + m + 1) = _
    rw [up_succ, i, if_neg h]
/-- Where it goes wrong at one time it has gone wrong behind all. -/
theorem dw_stop {x : Int} {k n : Nat} (hk : k < n) (h : (dwR x k).2 = 0) (h2 : ¬ (timesR (dwR x k).1 x).2.2 = 0) : dwR x n = (0, (timesR (dwR x k).1 x).2.2) := by
  have e : dwR x (k + 1) = (0, (timesR (dwR x k).1 x).2.2) := by rw [dw_succ, if_pos h, if_neg h2]
  obtain ⟨m, rfl⟩ : ∃ m, n = k + 1 + m := ⟨n - (k + 1), by omega⟩
  rw [dw_stay (by rw [e]; exact h2) m, e]
theorem up_stop {x : Int} {k n : Nat} (hk : k < n) (h : (upR x k).2 = 0) (h2 : ¬ (timesR (upR x k).1 x).2.2 = 0) : upR x n = (0, (timesR (upR x k).1 x).2.2) := by
  have e : upR x (k + 1) = (0, (timesR (upR x k).1 x).2.2) := by rw [up_succ, if_pos h, if_neg h2]
  obtain ⟨m, rfl⟩ : ∃ m, n = k + 1 + m := ⟨n - (k + 1), by omega⟩
  rw [up_stay (by rw [e]; exact h2) m, e]

/-- Times of two from 0 on: the upper one tells whether both may be. -/
theorem times_pos {a b : Int} (ha : 0 ≤ a) (ha2 : a ≤ 1000000000) (hb : 0 ≤ b) (hb2 : b ≤ 1000000000) :
    timesR a b = if may (ce (a * b) 1000) = true then (fl (a * b) 1000, ce (a * b) 1000, 0) else (0, 0, 4) := by
  unfold timesR nextR
  rw [if_pos ⟨(may_iff a).2 ⟨by omega, ha2⟩, (may_iff b).2 ⟨by omega, hb2⟩⟩]
  by_cases h : may (ce (a * b) 1000) = true
  · have h1 := fl_nonneg (d := 1000) (by decide) (Int.mul_nonneg ha hb)
    have h2 := (fl_le_ce (a * b) 1000 (by decide)).1
    have h3 := ((may_iff _).1 h).2
    rw [if_pos h, if_pos ⟨(may_iff _).2 ⟨by omega, by omega⟩, h⟩]
  · rw [if_neg h, if_neg (fun c => h c.2)]

theorem up_ag {x : Int} (hx : 0 ≤ x) (hx2 : x ≤ 1000000000) : ∀ k, upR x k = if (agR x k).2.2 = 0 then ((agR x k).2.1, 0) else (0, 4)
  | 0 => rfl
  | k + 1 => by
    have i := up_ag hx hx2 k
    by_cases h : (agR x k).2.2 = 0
    · rw [if_pos h] at i
      have r := ag_right hx k h
      rw [up_succ, i, ag_succ, if_pos h]
      show (if (0 : Int) = 0 then _ else _) = _
      rw [if_pos rfl]
      show (if (timesR (agR x k).2.1 x).2.2 = 0 then ((timesR (agR x k).2.1 x).2.1, (0 : Int)) else (0, (timesR (agR x k).2.1 x).2.2)) = _
      rw [times_pos (by omega) r.2.2 hx hx2]
      by_cases h2 : may (ce ((agR x k).2.1 * x) 1000) = true
      · rw [if_pos h2, if_pos h2]; rfl
      · rw [if_neg h2, if_neg h2]
    · rw [if_neg h] at i
      rw [up_succ, i, ag_succ, if_neg h]; rfl
theorem dw_ag {x : Int} (hx : 0 ≤ x) (hx2 : x ≤ 1000000000) : ∀ k, (agR x k).2.2 = 0 → dwR x k = ((agR x k).1, 0)
  | 0, _ => rfl
  | k + 1, h => by
    obtain ⟨h1, h2, e⟩ := ag_step h
    have i := dw_ag hx hx2 k h1
    have r := ag_right hx k h1
    rw [e, dw_succ, i]
    show (if (0 : Int) = 0 then _ else _) = _
    rw [if_pos rfl]
    show (if (timesR (agR x k).1 x).2.2 = 0 then ((timesR (agR x k).1 x).1, (0 : Int)) else (0, (timesR (agR x k).1 x).2.2)) = _
    have m := ((may_iff _).1 h2).2
    have a1 := Int.mul_nonneg r.1 hx
    have a2 := ce_mono (d := 1000) (by decide) (Int.mul_le_mul_of_nonneg_right r.2.1 hx)
    have a3 := (fl_le_ce ((agR x k).1 * x) 1000 (by decide)).1
    have a4 := fl_nonneg (d := 1000) (by decide) a1
    rw [times_pos r.1 (by omega) hx hx2, if_pos ((may_iff _).2 ⟨by omega, by omega⟩)]
    rfl
theorem dw_right {x : Int} (hx : 0 ≤ x) (hx2 : x ≤ 1000000000) : ∀ k, ((dwR x k).2 = 0 ∧ 0 ≤ (dwR x k).1 ∧ (dwR x k).1 ≤ 1000000000) ∨ dwR x k = (0, 4)
  | 0 => .inl (by show (0 : Int) = 0 ∧ (0 : Int) ≤ 1000 ∧ (1000 : Int) ≤ 1000000000; decide)
  | k + 1 => by
    rcases dw_right hx hx2 k with ⟨h, h1, h2⟩ | h
    · rw [dw_succ, if_pos h, times_pos h1 h2 hx hx2]
      by_cases hm : may (ce ((dwR x k).1 * x) 1000) = true
      · rw [if_pos hm]
        have m := ((may_iff _).1 hm).2
        have a3 := (fl_le_ce ((dwR x k).1 * x) 1000 (by decide)).1
        have a4 := fl_nonneg (d := 1000) (by decide) (Int.mul_nonneg h1 hx)
        exact .inl ⟨rfl, a4, Int.le_trans a3 m⟩
      · rw [if_neg hm]; exact .inr rfl
    · rw [dw_succ, h]; exact .inr rfl
theorem up_right {x : Int} (hx : 0 ≤ x) (hx2 : x ≤ 1000000000) (k : Nat) : ((upR x k).2 = 0 ∧ 0 ≤ (upR x k).1 ∧ (upR x k).1 ≤ 1000000000) ∨ upR x k = (0, 4) := by
  rw [up_ag hx hx2]
  by_cases h : (agR x k).2.2 = 0
  · have r := ag_right hx k h
    rw [if_pos h]; exact .inl ⟨rfl, Int.le_trans r.1 r.2.1, r.2.2⟩
  · rw [if_neg h]; exact .inr rfl
theorem ag_mono {p q : Int} (hp : 0 ≤ p) (h : p ≤ q) : ∀ k, (agR q k).2.2 = 0 → (agR p k).2.2 = 0 ∧ (agR p k).2.1 ≤ (agR q k).2.1
  | 0, _ => ⟨rfl, Int.le_refl _⟩
  | k + 1, hq => by
    obtain ⟨h1, h2, e⟩ := ag_step hq
    obtain ⟨i1, i2⟩ := ag_mono hp h k h1
    have r := ag_right hp k i1
    have rq := ag_right (Int.le_trans hp h) k h1
    have c : (agR p k).2.1 * p ≤ (agR q k).2.1 * q := Int.mul_le_mul i2 h hp (by omega)
    have c2 := ce_mono (d := 1000) (by decide) c
    have c3 : 0 ≤ (agR p k).2.1 * p := Int.mul_nonneg (by omega) hp
    have c4 := fl_nonneg (d := 1000) (by decide) c3
    have c5 := (fl_le_ce ((agR p k).2.1 * p) 1000 (by decide)).1
    have m := ((may_iff _).1 h2).2
    have hm : may (ce ((agR p k).2.1 * p) 1000) = true := (may_iff _).2 ⟨by omega, by omega⟩
    rw [e, ag_succ, if_pos i1, if_pos hm]
    exact ⟨rfl, c2⟩

/-- The lower end, the upper end: value and fault. -/
def lowR (x : Int) (k : Nat) : Int × Int := if x < 0 then (-(upR (-x) k).1, (upR (-x) k).2) else dwR x k
def highR (x : Int) (k : Nat) : Int × Int := if x < 0 then (-(dwR (-x) k).1, (dwR (-x) k).2) else upR x k
def join (a b : Int × Int) : Int × Int × Int := if a.2 = 0 then (if b.2 = 0 then (a.1, b.1, 0) else (0, 0, b.2)) else (0, 0, a.2)
theorem ag_bad {n : Int} {k : Nat} (h : ¬ (agR n k).2.2 = 0) : agR n k = (0, 0, 4) := (ag_fault n k).resolve_left h
theorem join_bad {a : Int × Int} (h : a.2 = 0 ∨ a = (0, 4)) : join a (0, 4) = (0, 0, 4) := by
  unfold join
  rcases h with h | h
  · rw [if_pos h]; rfl
  · rw [h]; rfl
theorem both_bad {a : Int × Int × Int} (h : a.2.2 = 0 ∨ a.2.2 = 4) {b : Int × Int × Int} (hb : b.2.2 = 4) : both a b = (0, 0, 4) := by
  unfold both
  rcases h with h | h
  · rw [if_pos h, if_neg (by rw [hb]; decide), hb]
  · rw [if_neg (by rw [h]; decide), h]
theorem both_first {a b : Int × Int × Int} (h : a.2.2 = 4) : both a b = (0, 0, 4) := by
  unfold both; rw [if_neg (by rw [h]; decide), h]
theorem ag_code (n : Int) (k : Nat) : (agR n k).2.2 = 0 ∨ (agR n k).2.2 = 4 := (ag_fault n k).imp id (fun h => by rw [h])

theorem ends_are {f t : Int} (k : Nat) (h : f ≤ t) (h1 : -1000000000 ≤ f) (h2 : t ≤ 1000000000) : join (lowR f k) (highR t k) = both (endR f k) (endR t k) := by
  unfold lowR highR endR
  rcases Int.lt_or_le f 0 with hf | hf
  · rw [if_pos hf, if_neg (by omega : ¬ 0 ≤ f)]
    have u := up_ag (x := -f) (by omega) (by omega) k
    by_cases ha : (agR (-f) k).2.2 = 0
    · rw [if_pos ha] at u
      rw [u]
      rcases Int.lt_or_le t 0 with ht | ht
      · rw [if_pos ht, if_neg (by omega : ¬ 0 ≤ t)]
        have m := (ag_mono (p := -t) (q := -f) (by omega) (by omega) k ha).1
        rw [dw_ag (x := -t) (by omega) (by omega) k m]
        unfold both join
        simp [ha, m]
      · rw [if_neg (by omega : ¬ t < 0), if_pos ht, up_ag ht h2]
        by_cases hb : (agR t k).2.2 = 0
        · unfold both join
          simp [ha, hb]
        · rw [if_neg hb, ag_bad hb]
          unfold both join
          simp [ha]
    · rw [if_neg ha] at u
      rw [u, both_first (by show (agR (-f) k).2.2 = 4; rw [ag_bad ha])]
      rfl
  · rw [if_neg (by omega : ¬ f < 0), if_pos hf, if_neg (by omega : ¬ t < 0), if_pos (by omega : 0 ≤ t), up_ag (by omega) h2]
    by_cases hb : (agR t k).2.2 = 0
    · have m := (ag_mono hf h k hb).1
      rw [if_pos hb, dw_ag hf (by omega) k m]
      unfold both join
      simp [hb, m]
    · rw [if_neg hb, both_bad (ag_code f k) (by rw [ag_bad hb]), join_bad]
      rcases dw_right hf (by omega) k with ⟨c, _⟩ | c
      · exact .inl c
      · exact .inr c
/-- A power of a span, by its ends. -/
def powC (lo hi : Int) (k : Nat) : Int × Int × Int := if k % 2 = 0 then join (lowR (farR lo hi).1 k) (highR (farR lo hi).2 k) else join (lowR lo k) (highR hi k)
theorem pow_code {lo hi : Int} (k : Nat) (m1 : may lo = true) (m2 : may hi = true) (h : lo ≤ hi) : powC lo hi k = powR lo hi k := by
  have a := (may_iff lo).1 m1
  have b := (may_iff hi).1 m2
  unfold powC powR
  by_cases hk : k % 2 = 0
  · rw [if_pos hk, if_pos hk]
    have r := far_right h
    have m := far_may m1 m2
    rw [ends_are k r.2 (by omega) m]
    have e : ∀ n, 0 ≤ n → endR n k = agR n k := fun n hn => by unfold endR; rw [if_pos hn]
    rw [e _ r.1, e _ (by omega)]
  · rw [if_neg hk, if_neg hk, ends_are k h a.1 b.2]
/-- What Of answers to any span and any number of times. -/
def ofR (lo hi n : Int) : Int × Int × Int := if chk lo hi = 0 then (if n < 0 ∨ 4 < n then (0, 0, 1) else powR lo hi n.toNat) else (0, 0, chk lo hi)
end Um
namespace Um
set_option linter.unusedSimpArgs false

/-- Corners, of what lies between two by so many parts. -/
theorem corners_by {al ah bl bh V n D : Int} (hD : 0 ≤ D) (h1 : al * D ≤ V) (h2 : V ≤ ah * D) (h3 : bl ≤ n) (h4 : n ≤ bh) :
    mn4 (al * bl) (al * bh) (ah * bl) (ah * bh) * D ≤ V * n ∧ V * n ≤ mx4 (al * bl) (al * bh) (ah * bl) (ah * bh) * D := by
  obtain ⟨q0, q1, q2, q3⟩ := mn4_le (al * bl) (al * bh) (ah * bl) (ah * bh)
  obtain ⟨p0, p1, p2, p3⟩ := le_mx4 (al * bl) (al * bh) (ah * bl) (ah * bh)
  generalize mn4 (al * bl) (al * bh) (ah * bl) (ah * bh) = m at *
  generalize mx4 (al * bl) (al * bh) (ah * bl) (ah * bh) = x at *
  have e : ∀ a b : Int, b * (a * D) = a * b * D := fun a b => by rw [← Int.mul_assoc, Int.mul_comm b a]
  constructor
  · refine le_lin h3 h4 ?_ ?_
    · rw [Int.mul_comm V]; refine le_lin h1 h2 ?_ ?_ <;> rw [e]
      · exact Int.mul_le_mul_of_nonneg_right q0 hD
      · exact Int.mul_le_mul_of_nonneg_right q2 hD
    · rw [Int.mul_comm V]; refine le_lin h1 h2 ?_ ?_ <;> rw [e]
      · exact Int.mul_le_mul_of_nonneg_right q1 hD
      · exact Int.mul_le_mul_of_nonneg_right q3 hD
  · refine lin_le h3 h4 ?_ ?_
    · rw [Int.mul_comm V]; refine lin_le h1 h2 ?_ ?_ <;> rw [e]
      · exact Int.mul_le_mul_of_nonneg_right p0 hD
      · exact Int.mul_le_mul_of_nonneg_right p2 hD
    · rw [Int.mul_comm V]; refine lin_le h1 h2 ?_ ?_ <;> rw [e]
      · exact Int.mul_le_mul_of_nonneg_right p1 hD
      · exact Int.mul_le_mul_of_nonneg_right p3 hD
theorem stimes_fault (al ah bl bh : Int) : (stimesR al ah bl bh).2.2 = 0 ∨ stimesR al ah bl bh = (0, 0, 4) := by
  unfold stimesR
  rcases fit_cases (fl (mn4 (al * bl) (al * bh) (ah * bl) (ah * bh)) 1000) (ce (mx4 (al * bl) (al * bh) (ah * bl) (ah * bh)) 1000) with e | ⟨e, _⟩
  · exact .inr e
  · rw [e]; exact .inl rfl
theorem add_fault (al ah bl bh : Int) : (addR al ah bl bh).2.2 = 0 ∨ addR al ah bl bh = (0, 0, 4) := by
  unfold addR
  rcases fit_cases (al + bl) (ah + bh) with e | ⟨e, _⟩
  · exact .inr e
  · rw [e]; exact .inl rfl
theorem add_is {al ah bl bh : Int} (h : (addR al ah bl bh).2.2 = 0) : addR al ah bl bh = (al + bl, ah + bh, 0) ∧ may (al + bl) = true ∧ may (ah + bh) = true := by
  unfold addR at h ⊢
  rcases fit_cases (al + bl) (ah + bh) with e | ⟨e, m⟩
  · rw [e] at h; exact absurd h (by decide)
  · exact ⟨e, m⟩
theorem stimes_by {al ah bl bh V n D : Int} (hD : 0 ≤ D) (h1 : al * D ≤ V) (h2 : V ≤ ah * D) (h3 : bl ≤ n) (h4 : n ≤ bh) (h : (stimesR al ah bl bh).2.2 = 0) :
    (stimesR al ah bl bh).1 * (1000 * D) ≤ V * n ∧ V * n ≤ (stimesR al ah bl bh).2.1 * (1000 * D) := by
  have hc := corners_by hD h1 h2 h3 h4
  unfold stimesR at h ⊢
  generalize mn4 (al * bl) (al * bh) (ah * bl) (ah * bh) = mn at *
  generalize mx4 (al * bl) (al * bh) (ah * bl) (ah * bh) = mx at *
  have s1 := (fl_spec_pos (n := mn) (d := 1000) (by decide)).1
  have s2 := (ce_spec_pos (n := mx) (d := 1000) (by decide)).1
  rcases fit_cases (fl mn 1000) (ce mx 1000) with e | ⟨e, m1, m2⟩
  · rw [e] at h; exact absurd h (by decide)
  · rw [e]
    have t1 := Int.mul_le_mul_of_nonneg_right s1 hD
    have t2 := Int.mul_le_mul_of_nonneg_right s2 hD
    refine ⟨?_, ?_⟩
    · show fl mn 1000 * (1000 * D) ≤ V * n
      rw [← Int.mul_assoc, Int.mul_comm (fl mn 1000)]; exact Int.le_trans t1 hc.1
    · show V * n ≤ ce mx 1000 * (1000 * D)
      rw [← Int.mul_assoc, Int.mul_comm (ce mx 1000)]; exact Int.le_trans hc.2 t2
theorem stimes_chk {al ah bl bh : Int} (h1 : al ≤ ah) (h2 : bl ≤ bh) (h : (stimesR al ah bl bh).2.2 = 0) : chk (stimesR al ah bl bh).1 (stimesR al ah bl bh).2.1 = 0 := by
  obtain ⟨m1, m2, s1, s2⟩ := stimes_has (x := al) (y := bl) (Int.le_refl _) h1 (Int.le_refl _) h2 h
  exact chk_ok.2 ⟨m1, m2, by omega⟩
theorem add_chk {al ah bl bh : Int} (h1 : al ≤ ah) (h2 : bl ≤ bh) (h : (addR al ah bl bh).2.2 = 0) : chk (addR al ah bl bh).1 (addR al ah bl bh).2.1 = 0 := by
  obtain ⟨e, m1, m2⟩ := add_is h
  rw [e]; exact chk_ok.2 ⟨m1, m2, by show al + bl ≤ ah + bh; omega⟩
theorem pow_fault {lo hi : Int} (k : Nat) : (powR lo hi k).2.2 = 0 ∨ powR lo hi k = (0, 0, 4) := by
  have bf : ∀ a b : Int × Int × Int, (a.2.2 = 0 ∨ a.2.2 = 4) → (b.2.2 = 0 ∨ b.2.2 = 4) → (both a b).2.2 = 0 ∨ both a b = (0, 0, 4) := by
    intro a b ha hb
    unfold both
    by_cases h1 : a.2.2 = 0
    · rw [if_pos h1]
      by_cases h2 : b.2.2 = 0
      · rw [if_pos h2]; exact .inl rfl
      · rw [if_neg h2, hb.resolve_left h2]; exact .inr rfl
    · rw [if_neg h1, ha.resolve_left h1]; exact .inr rfl
  have af : ∀ n, (agR n k).2.2 = 0 ∨ (agR n k).2.2 = 4 := fun n => (ag_fault n k).imp id (fun h => by rw [h])
  have ef : ∀ n, (endR n k).2.2 = 0 ∨ (endR n k).2.2 = 4 := fun n => by
    unfold endR
    by_cases h : 0 ≤ n
    · rw [if_pos h]; exact af n
    · rw [if_neg h]; exact af (-n)
  unfold powR
  by_cases hk : k % 2 = 0
  · rw [if_pos hk]; exact bf _ _ (af _) (af _)
  · rw [if_neg hk]; exact bf _ _ (ef _) (ef _)

/-- What is wrong with a polynomial; with one, and a span. -/
def pchk (p : List Int) : Int := if p = [] then 5 else if 5 < p.length then 4 else if p.all may = true then 0 else 1
def over (p : List Int) (lo hi : Int) : Int := if pchk p = 0 then chk lo hi else pchk p
theorem pchk_ok {p : List Int} : pchk p = 0 ↔ p ≠ [] ∧ p.length ≤ 5 ∧ ∀ c ∈ p, may c = true := by
  unfold pchk
  by_cases h1 : p = []
  · rw [if_pos h1]; exact ⟨fun h => absurd h (by decide), fun h => absurd h1 h.1⟩
  · rw [if_neg h1]
    by_cases h2 : 5 < p.length
    · rw [if_pos h2]; exact ⟨fun h => absurd h (by decide), fun h => by omega⟩
    · rw [if_neg h2]
      by_cases h3 : p.all may = true
      · rw [if_pos h3]; exact ⟨fun _ => ⟨h1, by omega, fun c hc => List.all_eq_true.1 h3 c hc⟩, fun _ => rfl⟩
      · rw [if_neg h3]; exact ⟨fun h => absurd h (by decide), fun h => absurd (List.all_eq_true.2 h.2.2) h3⟩
theorem over_ok {p : List Int} {lo hi : Int} : over p lo hi = 0 ↔ pchk p = 0 ∧ chk lo hi = 0 := by
  unfold over
  by_cases h : pchk p = 0
  · rw [if_pos h]; exact ⟨fun h2 => ⟨h, h2⟩, fun h2 => h2.2⟩
  · rw [if_neg h]; exact ⟨fun h2 => absurd h2 h, fun h2 => absurd h2.1 h⟩

/-- One factor more: times the span, and that factor added. -/
def hstep (lo hi : Int) (s : Int × Int × Int) (c : Int) : Int × Int × Int :=
  if s.2.2 = 0 then (if (stimesR s.1 s.2.1 lo hi).2.2 = 0 then addR (stimesR s.1 s.2.1 lo hi).1 (stimesR s.1 s.2.1 lo hi).2.1 c c else (0, 0, 4)) else (0, 0, 4)
/-- From the last factor on. -/
def hornR (lo hi : Int) : List Int → Int × Int × Int
  | [] => (0, 0, 0)
  | [c] => (c, c, 0)
  | c :: d :: r => hstep lo hi (hornR lo hi (d :: r)) c
theorem horn_one (lo hi c : Int) : hornR lo hi [c] = (c, c, 0) := rfl
theorem horn_cons (lo hi c : Int) {r : List Int} (h : r ≠ []) : hornR lo hi (c :: r) = hstep lo hi (hornR lo hi r) c := by
  cases r with
  | nil => exact absurd rfl h
  | cons d r => rfl
theorem hstep_ok {lo hi c : Int} {s : Int × Int × Int} (h : (hstep lo hi s c).2.2 = 0) :
    s.2.2 = 0 ∧ (stimesR s.1 s.2.1 lo hi).2.2 = 0 ∧ (addR (stimesR s.1 s.2.1 lo hi).1 (stimesR s.1 s.2.1 lo hi).2.1 c c).2.2 = 0 ∧
    hstep lo hi s c = addR (stimesR s.1 s.2.1 lo hi).1 (stimesR s.1 s.2.1 lo hi).2.1 c c := by
  unfold hstep at h ⊢
  by_cases h1 : s.2.2 = 0
  · rw [if_pos h1] at h ⊢
    by_cases h2 : (stimesR s.1 s.2.1 lo hi).2.2 = 0
    · rw [if_pos h2] at h ⊢; exact ⟨h1, h2, h, rfl⟩
    · rw [if_neg h2] at h; exact absurd h (by decide)
  · rw [if_neg h1] at h; exact absurd h (by decide)
theorem hstep_fault (lo hi : Int) (s : Int × Int × Int) (c : Int) : (hstep lo hi s c).2.2 = 0 ∨ hstep lo hi s c = (0, 0, 4) := by
  unfold hstep
  by_cases h1 : s.2.2 = 0
  · rw [if_pos h1]
    by_cases h2 : (stimesR s.1 s.2.1 lo hi).2.2 = 0
    · rw [if_pos h2]; exact add_fault _ _ _ _
    · rw [if_neg h2]; exact .inr rfl
  · rw [if_neg h1]; exact .inr rfl
theorem horn_fault (lo hi : Int) (p : List Int) : (hornR lo hi p).2.2 = 0 ∨ hornR lo hi p = (0, 0, 4) := by
  cases p with
  | nil => exact .inl rfl
  | cons c r =>
    cases r with
    | nil => exact .inl rfl
    | cons d r => exact hstep_fault _ _ _ _
theorem horn_chk {lo hi : Int} (hl : lo ≤ hi) : ∀ (p : List Int), p ≠ [] → (∀ c ∈ p, may c = true) → (hornR lo hi p).2.2 = 0 → chk (hornR lo hi p).1 (hornR lo hi p).2.1 = 0
  | [], h, _, _ => absurd rfl h
  | [c], _, hm, _ => by
    have m := hm c (List.mem_singleton.2 rfl)
    exact chk_ok.2 ⟨m, m, Int.le_refl _⟩
  | c :: d :: r, _, hm, h => by
    have h' : (hstep lo hi (hornR lo hi (d :: r)) c).2.2 = 0 := h
    obtain ⟨h1, h2, h3, e⟩ := hstep_ok h'
    have i := horn_chk hl (d :: r) (by simp) (fun x hx => hm x (List.mem_cons_of_mem _ hx)) h1
    obtain ⟨_, _, i3⟩ := chk_ok.1 i
    have t := stimes_chk i3 hl h2
    obtain ⟨_, _, t3⟩ := chk_ok.1 t
    show chk (hstep lo hi (hornR lo hi (d :: r)) c).1 (hstep lo hi (hornR lo hi (d :: r)) c).2.1 = 0
    rw [e]
    exact add_chk t3 (Int.le_refl _) h3

/-- What it is at n, by so many parts: 1000 times itself, as often as there are factors but one. -/
def hv (n : Int) : List Int → Int
  | [] => 0
  | c :: r => c * 1000 ^ r.length + hv n r * n
theorem pow_nonneg (k : Nat) : (0 : Int) ≤ 1000 ^ k := by
  have : (0 : Int) < 1000 ^ k := Int.pow_pos (by decide)
  omega
theorem pow_succ' (k : Nat) : (1000 : Int) ^ (k + 1) = 1000 * 1000 ^ k := by rw [Int.pow_succ, Int.mul_comm]
/-- What it is is in the range from the last factor on. -/
theorem horn_has {lo hi n : Int} (h1 : lo ≤ n) (h2 : n ≤ hi) : ∀ (p : List Int) (k : Nat), p.length = k + 1 → (hornR lo hi p).2.2 = 0 →
    (hornR lo hi p).1 * 1000 ^ k ≤ hv n p ∧ hv n p ≤ (hornR lo hi p).2.1 * 1000 ^ k
  | [], _, h, _ => by simp at h
  | [c], k, hk, _ => by
    have : k = 0 := by simpa using hk.symm
    subst this
    show c * 1 ≤ c * 1 + 0 * n ∧ c * 1 + 0 * n ≤ c * 1
    omega
  | c :: d :: r, k, hk, h => by
    have h' : (hstep lo hi (hornR lo hi (d :: r)) c).2.2 = 0 := h
    obtain ⟨g1, g2, g3, e⟩ := hstep_ok h'
    have hk' : k = r.length + 1 := by simpa using hk.symm
    obtain ⟨i1, i2⟩ := horn_has h1 h2 (d :: r) r.length (by simp) g1
    obtain ⟨t1, t2⟩ := stimes_by (pow_nonneg r.length) i1 i2 h1 h2 g2
    show (hstep lo hi (hornR lo hi (d :: r)) c).1 * 1000 ^ k ≤ c * 1000 ^ (d :: r).length + hv n (d :: r) * n ∧ c * 1000 ^ (d :: r).length + hv n (d :: r) * n ≤ (hstep lo hi (hornR lo hi (d :: r)) c).2.1 * 1000 ^ k
    rw [e, (add_is g3).1, hk', List.length_cons, pow_succ']
    generalize (1000 : Int) * 1000 ^ r.length = D at *
    refine ⟨?_, ?_⟩
    · show ((stimesR (hornR lo hi (d :: r)).1 (hornR lo hi (d :: r)).2.1 lo hi).1 + c) * D ≤ _
      rw [Int.add_mul]; omega
    · show _ ≤ ((stimesR (hornR lo hi (d :: r)).1 (hornR lo hi (d :: r)).2.1 lo hi).2.1 + c) * D
      rw [Int.add_mul]; omega

/-- What it is at n, by 10^12 parts: so many terms, from the power 0 on. -/
def exN (n : Int) (p : List Int) : Nat → Int
  | 0 => 0
  | k + 1 => exN n p k + p.getD k 0 * n ^ k * 1000 ^ (4 - k)
theorem ex_hv (n : Int) {p : List Int} (h0 : p ≠ []) (h5 : p.length ≤ 5) : exN n p p.length = hv n p * 1000 ^ (5 - p.length) := by
  match p, h0, h5 with
  | [a], _, _ => simp [exN, hv]
  | [a, b], _, _ => simp [exN, hv]; grind
  | [a, b, c], _, _ => simp [exN, hv]; grind
  | [a, b, c, d], _, _ => simp [exN, hv]; grind
  | [a, b, c, d, e], _, _ => simp [exN, hv]; grind
theorem low_by {s E D : Int} (hD : 0 < D) (h : s * D ≤ E) : s ≤ fl E D := by
  have := fl_spec_pos (n := E) hD
  rcases Int.lt_or_le (fl E D) s with c | c
  · have c2 : fl E D + 1 ≤ s := by omega
    have c3 := Int.mul_le_mul_of_nonneg_left c2 (Int.le_of_lt hD)
    rw [Int.mul_add, Int.mul_one, Int.mul_comm D s] at c3
    omega
  · exact c
theorem high_by {s E D : Int} (hD : 0 < D) (h : E ≤ s * D) : ce E D ≤ s := by
  have := low_by (s := -s) (E := -E) hD (by rw [Int.neg_mul]; omega)
  unfold ce; omega
/-- At each number of a span, by Horner's way. -/
theorem horn_value {lo hi n : Int} {p : List Int} (h0 : p ≠ []) (h5 : p.length ≤ 5) (h1 : lo ≤ n) (h2 : n ≤ hi) (h : (hornR lo hi p).2.2 = 0) :
    (hornR lo hi p).1 ≤ fl (exN n p p.length) 1000000000000 ∧ ce (exN n p p.length) 1000000000000 ≤ (hornR lo hi p).2.1 := by
  have hl : 0 < p.length := List.length_pos_iff.2 h0
  obtain ⟨k, hk⟩ : ∃ k, p.length = k + 1 := ⟨p.length - 1, by omega⟩
  obtain ⟨i1, i2⟩ := horn_has h1 h2 p k hk h
  have e : (1000 : Int) ^ k * 1000 ^ (5 - p.length) = 1000000000000 := by
    rw [← Int.pow_add, show k + (5 - p.length) = 4 by omega]; decide
  have z := pow_nonneg (5 - p.length)
  have j1 := Int.mul_le_mul_of_nonneg_right i1 z
  have j2 := Int.mul_le_mul_of_nonneg_right i2 z
  rw [Int.mul_assoc, e] at j1 j2
  rw [ex_hv n h0 h5]
  exact ⟨low_by (by decide) j1, high_by (by decide) j2⟩
end Um
namespace Um
set_option linter.unusedSimpArgs false

theorem ag_four {n : Int} (hn : 0 ≤ n) (hm : n ≤ 1000000000) (h : (agR n 4).2.2 = 0) : (agR n 4).1 * 1000000000 ≤ n * n * n * n ∧ n * n * n * n ≤ (agR n 4).2.1 * 1000000000 := by
  obtain ⟨h3, _, e⟩ := ag_step h
  obtain ⟨t1, t2⟩ := ag_three hn hm h3
  rw [e]
  generalize (agR n 3).1 = a at *
  generalize (agR n 3).2.1 = b at *
  have s1 := fl_spec_pos (n := a * n) (d := 1000) (by decide)
  have s2 := ce_spec_pos (n := b * n) (d := 1000) (by decide)
  have u1 := Int.mul_le_mul_of_nonneg_right t1 hn
  have u2 := Int.mul_le_mul_of_nonneg_right t2 hn
  have v1 : a * 1000000 * n = 1000000 * (a * n) := by rw [Int.mul_comm a 1000000, Int.mul_assoc]
  have v2 : b * 1000000 * n = 1000000 * (b * n) := by rw [Int.mul_comm b 1000000, Int.mul_assoc]
  rw [v1] at u1
  rw [v2] at u2
  exact ⟨by show fl (a * n) 1000 * 1000000000 ≤ _; omega, by show _ ≤ ce (b * n) 1000 * 1000000000; omega⟩
theorem four_mono {a b : Int} (ha : 0 ≤ a) (h : a ≤ b) : a * a * a * a ≤ b * b * b * b :=
  Int.mul_le_mul (cube_mono_nonneg ha h) h ha (cube_sign (Int.le_trans ha h))
theorem ab_four (x : Int) : ab x * ab x * ab x * ab x = x * x * x * x := by
  have e := ab_sq x
  rw [Int.mul_assoc (ab x * ab x), e, ← Int.mul_assoc]
theorem pow_four {lo hi x : Int} (m1 : may lo = true) (m2 : may hi = true) (h1 : lo ≤ x) (h2 : x ≤ hi) (h : (powR lo hi 4).2.2 = 0) :
    (powR lo hi 4).1 * 1000000000 ≤ x * x * x * x ∧ x * x * x * x ≤ (powR lo hi 4).2.1 * 1000000000 := by
  have hf := far_has h1 h2
  have hr := far_right (Int.le_trans h1 h2)
  have hm := far_may m1 m2
  unfold powR at h ⊢
  rw [if_pos (by decide)] at h ⊢
  obtain ⟨k1, k2, e⟩ := both_ok h
  rw [e]
  generalize (farR lo hi).1 = p at *
  generalize (farR lo hi).2 = q at *
  have a1 := ag_four hr.1 (by omega) k1
  have a2 := ag_four (n := q) (by omega) hm k2
  have g1 := four_mono hr.1 hf.1
  have g2 := four_mono (ab_nonneg x) hf.2
  rw [ab_four] at g1 g2
  exact ⟨by show (agR p 4).1 * 1000000000 ≤ _; omega, by show _ ≤ (agR q 4).2.1 * 1000000000; omega⟩
theorem pow_cube {lo hi x : Int} (m1 : may lo = true) (m2 : may hi = true) (h1 : lo ≤ x) (h2 : x ≤ hi) (h : (powR lo hi 3).2.2 = 0) :
    (powR lo hi 3).1 * 1000000 ≤ x * x * x ∧ x * x * x ≤ (powR lo hi 3).2.1 * 1000000 := by
  unfold powR at h ⊢
  rw [if_neg (by decide)] at h ⊢
  obtain ⟨k1, k2, e⟩ := both_ok h
  rw [e]
  have t1 := (end_three m1 k1).2.2.2.1
  have t2 := (end_three m2 k2).2.2.2.2
  have c1 := cube_mono h1
  have c2 := cube_mono h2
  refine ⟨?_, ?_⟩
  · show (endR lo 3).1 * 1000000 ≤ x * x * x; omega
  · show x * x * x ≤ (endR hi 3).2.1 * 1000000; omega
/-- A number of a span, so many times with itself, is in the power of the span: by 1000, as often. -/
theorem pow_has {lo hi n : Int} (hc : chk lo hi = 0) (h1 : lo ≤ n) (h2 : n ≤ hi) {k : Nat} (hk : k ≤ 4) (h : (powR lo hi k).2.2 = 0) :
    (powR lo hi k).1 * 1000 ^ k ≤ 1000 * n ^ k ∧ 1000 * n ^ k ≤ (powR lo hi k).2.1 * 1000 ^ k := by
  obtain ⟨m1, m2, m3⟩ := chk_ok.1 hc
  rcases (by omega : k = 0 ∨ k = 1 ∨ k = 2 ∨ k = 3 ∨ k = 4) with rfl | rfl | rfl | rfl | rfl
  · rw [pow_zero]; simp
  · rw [pow_once m1 m2]
    simp only [Int.pow_succ, Int.pow_zero, Int.one_mul]
    omega
  · obtain ⟨_, _, t1, t2⟩ := pow_two m1 m2 h1 h2 h
    simp only [Int.pow_succ, Int.pow_zero, Int.one_mul]
    omega
  · obtain ⟨t1, t2⟩ := pow_cube m1 m2 h1 h2 h
    simp only [Int.pow_succ, Int.pow_zero, Int.one_mul]
    omega
  · obtain ⟨t1, t2⟩ := pow_four m1 m2 h1 h2 h
    simp only [Int.pow_succ, Int.pow_zero, Int.one_mul]
    omega
theorem ag_chk {n : Int} (hn : 0 ≤ n) (k : Nat) (h : (agR n k).2.2 = 0) : may (agR n k).1 = true ∧ may (agR n k).2.1 = true ∧ (agR n k).1 ≤ (agR n k).2.1 := by
  have r := ag_right hn k h
  exact ⟨(may_iff _).2 (by omega), (may_iff _).2 (by omega), r.2.1⟩
/-- The power of a right span is right. -/
theorem pow_chk {lo hi : Int} (hc : chk lo hi = 0) {k : Nat} (hk : k ≤ 4) (h : (powR lo hi k).2.2 = 0) : chk (powR lo hi k).1 (powR lo hi k).2.1 = 0 := by
  obtain ⟨m1, m2, m3⟩ := chk_ok.1 hc
  have b1 := pow_has hc (Int.le_refl _) m3 hk h
  have hp : (0 : Int) < 1000 ^ k := Int.pow_pos (by decide)
  have le : (powR lo hi k).1 ≤ (powR lo hi k).2.1 := by
    rcases Int.lt_or_le (powR lo hi k).2.1 (powR lo hi k).1 with c | c
    · have := Int.mul_lt_mul_of_pos_right c hp
      omega
    · exact c
  have hm : may (powR lo hi k).1 = true ∧ may (powR lo hi k).2.1 = true := by
    have hr := far_right m3
    have en : ∀ n, (endR n k).2.2 = 0 → may (endR n k).1 = true ∧ may (endR n k).2.1 = true := fun n he => by
      unfold endR at he ⊢
      by_cases hn : 0 ≤ n
      · rw [if_pos hn] at he ⊢
        have := ag_chk hn k he
        exact ⟨this.1, this.2.1⟩
      · rw [if_neg hn] at he ⊢
        have := ag_right (n := -n) (by omega) k he
        exact ⟨(may_iff _).2 (by show -1000000000 ≤ -(agR (-n) k).2.1 ∧ -(agR (-n) k).2.1 ≤ 1000000000; omega), (may_iff _).2 (by show -1000000000 ≤ -(agR (-n) k).1 ∧ -(agR (-n) k).1 ≤ 1000000000; omega)⟩
    unfold powR at h ⊢
    by_cases hp : k % 2 = 0
    · rw [if_pos hp] at h ⊢
      obtain ⟨k1, k2, e⟩ := both_ok h
      rw [e]
      exact ⟨(ag_chk hr.1 k k1).1, (ag_chk (by omega) k k2).2.1⟩
    · rw [if_neg hp] at h ⊢
      obtain ⟨k1, k2, e⟩ := both_ok h
      rw [e]
      exact ⟨(en lo k1).1, (en hi k2).2⟩
  exact chk_ok.2 ⟨hm.1, hm.2, le⟩

/-- One term more: the factor times the power of the span, added. -/
def pstep (lo hi : Int) (s : Int × Int × Int) (c : Int) (k : Nat) : Int × Int × Int :=
  if s.2.2 = 0 then (if (powR lo hi k).2.2 = 0 then (if (stimesR c c (powR lo hi k).1 (powR lo hi k).2.1).2.2 = 0 then
    addR s.1 s.2.1 (stimesR c c (powR lo hi k).1 (powR lo hi k).2.1).1 (stimesR c c (powR lo hi k).1 (powR lo hi k).2.1).2.1 else (0, 0, 4)) else (0, 0, 4)) else (0, 0, 4)
/-- So many terms, from the power 0 on. -/
def powsN (lo hi : Int) (p : List Int) : Nat → Int × Int × Int
  | 0 => (0, 0, 0)
  | k + 1 => pstep lo hi (powsN lo hi p k) (p.getD k 0) k
theorem pows_succ (lo hi : Int) (p : List Int) (k : Nat) : powsN lo hi p (k + 1) = pstep lo hi (powsN lo hi p k) (p.getD k 0) k := rfl
theorem pstep_ok {lo hi c : Int} {s : Int × Int × Int} {k : Nat} (h : (pstep lo hi s c k).2.2 = 0) :
    s.2.2 = 0 ∧ (powR lo hi k).2.2 = 0 ∧ (stimesR c c (powR lo hi k).1 (powR lo hi k).2.1).2.2 = 0 ∧
    (addR s.1 s.2.1 (stimesR c c (powR lo hi k).1 (powR lo hi k).2.1).1 (stimesR c c (powR lo hi k).1 (powR lo hi k).2.1).2.1).2.2 = 0 ∧
    pstep lo hi s c k = addR s.1 s.2.1 (stimesR c c (powR lo hi k).1 (powR lo hi k).2.1).1 (stimesR c c (powR lo hi k).1 (powR lo hi k).2.1).2.1 := by
  unfold pstep at h ⊢
  by_cases h1 : s.2.2 = 0
  · rw [if_pos h1] at h ⊢
    by_cases h2 : (powR lo hi k).2.2 = 0
    · rw [if_pos h2] at h ⊢
      by_cases h3 : (stimesR c c (powR lo hi k).1 (powR lo hi k).2.1).2.2 = 0
      · rw [if_pos h3] at h ⊢; exact ⟨h1, h2, h3, h, rfl⟩
      · rw [if_neg h3] at h; exact absurd h (by decide)
    · rw [if_neg h2] at h; exact absurd h (by decide)
  · rw [if_neg h1] at h; exact absurd h (by decide)
theorem pstep_fault (lo hi : Int) (s : Int × Int × Int) (c : Int) (k : Nat) : (pstep lo hi s c k).2.2 = 0 ∨ pstep lo hi s c k = (0, 0, 4) := by
  unfold pstep
  by_cases h1 : s.2.2 = 0
  · rw [if_pos h1]
    by_cases h2 : (powR lo hi k).2.2 = 0
    · rw [if_pos h2]
      by_cases h3 : (stimesR c c (powR lo hi k).1 (powR lo hi k).2.1).2.2 = 0
      · rw [if_pos h3]; exact add_fault _ _ _ _
      · rw [if_neg h3]; exact .inr rfl
    · rw [if_neg h2]; exact .inr rfl
  · rw [if_neg h1]; exact .inr rfl
theorem pows_fault (lo hi : Int) (p : List Int) (k : Nat) : (powsN lo hi p k).2.2 = 0 ∨ powsN lo hi p k = (0, 0, 4) := by
  cases k with
  | zero => exact .inl rfl
  | succ k => exact pstep_fault _ _ _ _ _
theorem pows_stay {lo hi : Int} {p : List Int} {k : Nat} (h : ¬ (powsN lo hi p k).2.2 = 0) : ∀ m, powsN lo hi p (k + m) = (0, 0, 4)
  | 0 => (pows_fault lo hi p k).resolve_left h
  | m + 1 => by
    have i := pows_stay h m
    show pstep lo hi (powsN lo hi p (k + m)) _ _ = _
    rw [i]; rfl
theorem pows_chk {lo hi : Int} (hc : chk lo hi = 0) (p : List Int) : ∀ (k : Nat), k ≤ 5 → (powsN lo hi p k).2.2 = 0 → chk (powsN lo hi p k).1 (powsN lo hi p k).2.1 = 0
  | 0, _, _ => by show chk 0 0 = 0; decide
  | k + 1, hk, h => by
    have h' : (pstep lo hi (powsN lo hi p k) (p.getD k 0) k).2.2 = 0 := h
    obtain ⟨g1, g2, g3, g4, e⟩ := pstep_ok h'
    have i := pows_chk hc p k (by omega) g1
    have j := pow_chk hc (by omega : k ≤ 4) g2
    have t := stimes_chk (Int.le_refl _) (chk_ok.1 j).2.2 g3
    rw [pows_succ, e]
    exact add_chk (chk_ok.1 i).2.2 (chk_ok.1 t).2.2 g4
/-- At each number of a span, by powers: so many terms. -/
theorem pows_has {lo hi n : Int} (hc : chk lo hi = 0) (h1 : lo ≤ n) (h2 : n ≤ hi) (p : List Int) : ∀ (k : Nat), k ≤ 5 → (powsN lo hi p k).2.2 = 0 →
    (powsN lo hi p k).1 * 1000000000000 ≤ exN n p k ∧ exN n p k ≤ (powsN lo hi p k).2.1 * 1000000000000
  | 0, _, _ => by show (0 : Int) * 1000000000000 ≤ 0 ∧ (0 : Int) ≤ 0 * 1000000000000; decide
  | k + 1, hk, h => by
    have h' : (pstep lo hi (powsN lo hi p k) (p.getD k 0) k).2.2 = 0 := h
    obtain ⟨g1, g2, g3, g4, e⟩ := pstep_ok h'
    obtain ⟨i1, i2⟩ := pows_has hc h1 h2 p k (by omega) g1
    obtain ⟨j1, j2⟩ := pow_has hc h1 h2 (by omega : k ≤ 4) g2
    have z := pow_nonneg k
    rw [pows_succ, e, (add_is g4).1]
    have ex : exN n p (k + 1) = exN n p k + p.getD k 0 * n ^ k * 1000 ^ (4 - k) := rfl
    rw [ex]
    clear ex
    have hs : stimesR (p.getD k 0) (p.getD k 0) (powR lo hi k).1 (powR lo hi k).2.1 = stimesR (powR lo hi k).1 (powR lo hi k).2.1 (p.getD k 0) (p.getD k 0) := by
      unfold stimesR mn4 mx4
      rw [Int.mul_comm (powR lo hi k).1, Int.mul_comm (powR lo hi k).2.1]
      congr 2 <;> omega
    rw [hs] at g3 ⊢
    obtain ⟨t1, t2⟩ := stimes_by z j1 j2 (Int.le_refl _) (Int.le_refl _) g3
    generalize stimesR (powR lo hi k).1 (powR lo hi k).2.1 (p.getD k 0) (p.getD k 0) = T at *
    generalize p.getD k 0 = c at *
    generalize powsN lo hi p k = S at *
    generalize exN n p k = E at *
    have z4 : (0 : Int) ≤ 1000 ^ (4 - k) := pow_nonneg _
    have e4 : (1000 : Int) ^ k * 1000 ^ (4 - k) = 1000000000000 := by
      rw [← Int.pow_add, show k + (4 - k) = 4 by omega]; decide
    have u1 := Int.mul_le_mul_of_nonneg_right t1 z4
    have u2 := Int.mul_le_mul_of_nonneg_right t2 z4
    have r1 : ∀ q : Int, q * (1000 * 1000 ^ k) * 1000 ^ (4 - k) = 1000 * (q * 1000000000000) := fun q => by
      rw [← e4]; generalize (1000 : Int) ^ k = A; generalize (1000 : Int) ^ (4 - k) = B; grind
    have r2 : 1000 * n ^ k * c * 1000 ^ (4 - k) = 1000 * (c * n ^ k * 1000 ^ (4 - k)) := by grind
    rw [r1, r2] at u1 u2
    generalize c * n ^ k * 1000 ^ (4 - k) = X at *
    show (S.1 + T.1) * 1000000000000 ≤ E + X ∧ E + X ≤ (S.2.1 + T.2.1) * 1000000000000
    omega
theorem pows_value {lo hi n : Int} {p : List Int} (hc : chk lo hi = 0) (h5 : p.length ≤ 5) (h1 : lo ≤ n) (h2 : n ≤ hi) (h : (powsN lo hi p p.length).2.2 = 0) :
    (powsN lo hi p p.length).1 ≤ fl (exN n p p.length) 1000000000000 ∧ ce (exN n p p.length) 1000000000000 ≤ (powsN lo hi p p.length).2.1 := by
  obtain ⟨j1, j2⟩ := pows_has hc h1 h2 p p.length h5 h
  exact ⟨low_by (by decide) j1, high_by (by decide) j2⟩

/-- What does not hang on it does not. -/
theorem flat {lo hi n : Int} (hm : may n = true) : powsN lo hi [n] 1 = (n, n, 0) := by
  have m := (may_iff n).1 hm
  have e1 : fl (n * 1000) 1000 = n := by rw [fl_pos (by decide)]; omega
  have e2 : ce (n * 1000) 1000 = n := by rw [ce_pos (by decide)]; omega
  have e : stimesR n n 1000 1000 = (n, n, 0) := by
    unfold stimesR mn4 mx4
    rw [show min (min (min (n * 1000) (n * 1000)) (n * 1000)) (n * 1000) = n * 1000 by omega, show max (max (max (n * 1000) (n * 1000)) (n * 1000)) (n * 1000) = n * 1000 by omega, e1, e2]
    unfold fit; rw [if_pos ⟨hm, hm⟩]
  show pstep lo hi (0, 0, 0) n 0 = _
  unfold pstep
  rw [pow_zero]
  simp only [e]
  rw [if_pos trivial, if_pos trivial, if_pos trivial]
  unfold addR fit
  rw [Int.zero_add, if_pos ⟨hm, hm⟩]
/-- The bounds of what a small one is. -/
theorem ex_small {n : Int} {p : List Int} (h5 : p.length ≤ 5) (hp : ∀ c ∈ p, -5000 ≤ c ∧ c ≤ 5000) (h1 : -5000 ≤ n) (h2 : n ≤ 5000) : ∀ k, k ≤ p.length → (exN n p k).natAbs ≤ 5000000000000000 * (if k = 0 then 0 else if k = 1 then 1 else if k = 2 then 6 else if k = 3 then 31 else if k = 4 then 156 else 781)
  | 0, _ => by simp [exN]
  | k + 1, hk => by
    have i := ex_small h5 hp h1 h2 k (by omega)
    have hc : (p.getD k 0).natAbs ≤ 5000 := by
      have := hp (p.getD k 0) (by rw [List.getD_eq_getElem?_getD, List.getElem?_eq_getElem (by omega)]; exact List.getElem_mem _)
      omega
    have hn : ∀ m, (n ^ m).natAbs ≤ 5000 ^ m := fun m => by
      rw [Int.natAbs_pow]; exact Nat.pow_le_pow_left (by omega) m
    have e : (p.getD k 0 * n ^ k * 1000 ^ (4 - k)).natAbs ≤ 5000 * 5000 ^ k * 1000 ^ (4 - k) := by
      rw [Int.natAbs_mul, Int.natAbs_mul]
      exact Nat.mul_le_mul (Nat.mul_le_mul hc (hn k)) (by rw [Int.natAbs_pow]; exact Nat.le_refl _)
    show (exN n p k + p.getD k 0 * n ^ k * 1000 ^ (4 - k)).natAbs ≤ _
    have a := Int.natAbs_add_le (exN n p k) (p.getD k 0 * n ^ k * 1000 ^ (4 - k))
    rcases (by omega : k = 0 ∨ k = 1 ∨ k = 2 ∨ k = 3 ∨ k = 4) with rfl | rfl | rfl | rfl | rfl
    all_goals simp at i e a ⊢
    all_goals omega
end Um
namespace Um
set_option linter.unusedSimpArgs false

theorem corners_parts {al ah bl bh V N D q : Int} (hD : 0 ≤ D) (hq : 0 ≤ q) (h1 : al * D ≤ V) (h2 : V ≤ ah * D) (h3 : bl * q ≤ N) (h4 : N ≤ bh * q) :
    mn4 (al * bl) (al * bh) (ah * bl) (ah * bh) * (D * q) ≤ V * N ∧ V * N ≤ mx4 (al * bl) (al * bh) (ah * bl) (ah * bh) * (D * q) := by
  obtain ⟨q0, q1, q2, q3⟩ := mn4_le (al * bl) (al * bh) (ah * bl) (ah * bh)
  obtain ⟨p0, p1, p2, p3⟩ := le_mx4 (al * bl) (al * bh) (ah * bl) (ah * bh)
  generalize mn4 (al * bl) (al * bh) (ah * bl) (ah * bh) = m at *
  generalize mx4 (al * bl) (al * bh) (ah * bl) (ah * bh) = x at *
  have hDq := Int.mul_nonneg hD hq
  have e : ∀ a b : Int, b * q * (a * D) = a * b * (D * q) := fun a b => by grind
  constructor
  · refine le_lin h3 h4 ?_ ?_
    · rw [Int.mul_comm V]; refine le_lin h1 h2 ?_ ?_ <;> rw [e]
      · exact Int.mul_le_mul_of_nonneg_right q0 hDq
      · exact Int.mul_le_mul_of_nonneg_right q2 hDq
    · rw [Int.mul_comm V]; refine le_lin h1 h2 ?_ ?_ <;> rw [e]
      · exact Int.mul_le_mul_of_nonneg_right q1 hDq
      · exact Int.mul_le_mul_of_nonneg_right q3 hDq
  · refine lin_le h3 h4 ?_ ?_
    · rw [Int.mul_comm V]; refine lin_le h1 h2 ?_ ?_ <;> rw [e]
      · exact Int.mul_le_mul_of_nonneg_right p0 hDq
      · exact Int.mul_le_mul_of_nonneg_right p2 hDq
    · rw [Int.mul_comm V]; refine lin_le h1 h2 ?_ ?_ <;> rw [e]
      · exact Int.mul_le_mul_of_nonneg_right p1 hDq
      · exact Int.mul_le_mul_of_nonneg_right p3 hDq
theorem stimes_parts {al ah bl bh V N D q : Int} (hD : 0 ≤ D) (hq : 0 ≤ q) (h1 : al * D ≤ V) (h2 : V ≤ ah * D) (h3 : bl * q ≤ N) (h4 : N ≤ bh * q) (h : (stimesR al ah bl bh).2.2 = 0) :
    (stimesR al ah bl bh).1 * (1000 * q * D) ≤ V * N ∧ V * N ≤ (stimesR al ah bl bh).2.1 * (1000 * q * D) := by
  have hc := corners_parts hD hq h1 h2 h3 h4
  have hDq := Int.mul_nonneg hD hq
  unfold stimesR at h ⊢
  generalize mn4 (al * bl) (al * bh) (ah * bl) (ah * bh) = mn at *
  generalize mx4 (al * bl) (al * bh) (ah * bl) (ah * bh) = mx at *
  have s1 := (fl_spec_pos (n := mn) (d := 1000) (by decide)).1
  have s2 := (ce_spec_pos (n := mx) (d := 1000) (by decide)).1
  rcases fit_cases (fl mn 1000) (ce mx 1000) with e | ⟨e, m1, m2⟩
  · rw [e] at h; exact absurd h (by decide)
  · rw [e]
    have t1 := Int.mul_le_mul_of_nonneg_right s1 hDq
    have t2 := Int.mul_le_mul_of_nonneg_right s2 hDq
    have r : ∀ f : Int, f * (1000 * q * D) = 1000 * f * (D * q) := fun f => by grind
    refine ⟨?_, ?_⟩
    · show fl mn 1000 * (1000 * q * D) ≤ V * N
      rw [r]; exact Int.le_trans t1 hc.1
    · show V * N ≤ ce mx 1000 * (1000 * q * D)
      rw [r]; exact Int.le_trans hc.2 t2
/-- What it is at N by q, by so many parts. -/
def hvq (q N : Int) : List Int → Int
  | [] => 0
  | c :: r => c * (1000 * q) ^ r.length + hvq q N r * N
theorem powq_nonneg {q : Int} (hq : 0 ≤ q) : ∀ (k : Nat), (0 : Int) ≤ (1000 * q) ^ k
  | 0 => by rw [Int.pow_zero]; decide
  | k + 1 => by rw [Int.pow_succ]; exact Int.mul_nonneg (powq_nonneg hq k) (by omega)
theorem horn_parts {lo hi q N : Int} (hq : 0 ≤ q) (h1 : lo * q ≤ N) (h2 : N ≤ hi * q) : ∀ (p : List Int) (k : Nat), p.length = k + 1 → (hornR lo hi p).2.2 = 0 →
    (hornR lo hi p).1 * (1000 * q) ^ k ≤ hvq q N p ∧ hvq q N p ≤ (hornR lo hi p).2.1 * (1000 * q) ^ k
  | [], _, h, _ => by simp at h
  | [c], k, hk, _ => by
    have : k = 0 := by simpa using hk.symm
    subst this
    simp [hvq, hornR]
  | c :: d :: r, k, hk, h => by
    have h' : (hstep lo hi (hornR lo hi (d :: r)) c).2.2 = 0 := h
    obtain ⟨g1, g2, g3, e⟩ := hstep_ok h'
    have hk' : k = r.length + 1 := by simpa using hk.symm
    obtain ⟨i1, i2⟩ := horn_parts hq h1 h2 (d :: r) r.length (by simp) g1
    obtain ⟨t1, t2⟩ := stimes_parts (powq_nonneg hq r.length) hq i1 i2 h1 h2 g2
    show (hstep lo hi (hornR lo hi (d :: r)) c).1 * (1000 * q) ^ k ≤ c * (1000 * q) ^ (d :: r).length + hvq q N (d :: r) * N ∧ c * (1000 * q) ^ (d :: r).length + hvq q N (d :: r) * N ≤ (hstep lo hi (hornR lo hi (d :: r)) c).2.1 * (1000 * q) ^ k
    have es : (1000 * q) ^ (r.length + 1) = 1000 * q * (1000 * q) ^ r.length := by rw [Int.pow_succ, Int.mul_comm]
    rw [e, (add_is g3).1, hk', List.length_cons, es]
    generalize 1000 * q * (1000 * q) ^ r.length = D at *
    refine ⟨?_, ?_⟩
    · show ((stimesR (hornR lo hi (d :: r)).1 (hornR lo hi (d :: r)).2.1 lo hi).1 + c) * D ≤ _
      rw [Int.add_mul]; omega
    · show _ ≤ ((stimesR (hornR lo hi (d :: r)).1 (hornR lo hi (d :: r)).2.1 lo hi).2.1 + c) * D
      rw [Int.add_mul]; omega

/-- Its slope: each factor but the first times its power; of one factor 0 alone. -/
def ders (p : List Int) : List Int := if p.length ≤ 1 then [0] else (List.range (p.length - 1)).map fun i => p.getD (i + 1) 0 * (i + 1 : Nat)
def derR (p : List Int) : List Int × Int := if (ders p).all may = true then (ders p, 0) else ([], 4)
theorem ders_length {p : List Int} (h : 1 < p.length) : (ders p).length = p.length - 1 := by
  unfold ders; rw [if_neg (by omega)]; simp
theorem ders_some (p : List Int) : ders p ≠ [] := by
  unfold ders
  by_cases h : p.length ≤ 1
  · rw [if_pos h]; simp
  · rw [if_neg h]
    intro c
    have : ((List.range (p.length - 1)).map fun i => p.getD (i + 1) 0 * ((i + 1 : Nat) : Int)).length = 0 := by rw [c]; rfl
    simp at this
    omega
/-- Between two numbers of a span it changes by what its slope is there. -/
theorem slope_has {lo hi n m : Int} {p : List Int} (h0 : p ≠ []) (h5 : p.length ≤ 5) (hn1 : lo ≤ n) (hn2 : n ≤ hi) (hm1 : lo ≤ m) (hm2 : m ≤ hi) (h : (hornR lo hi (ders p)).2.2 = 0) :
    ∃ W : Int, 48 * (exN n p p.length - exN m p p.length) = W * (n - m) ∧ (hornR lo hi (ders p)).1 * 48000000000 ≤ W ∧ W ≤ (hornR lo hi (ders p)).2.1 * 48000000000 := by
  have P := fun (N : Int) (a : lo * 2 ≤ N) (b : N ≤ hi * 2) (k : Nat) (hk : (ders p).length = k + 1) => horn_parts (lo := lo) (hi := hi) (q := 2) (by decide) a b (ders p) k hk h
  match p, h0, h5 with
  | [a], _, _ =>
    refine ⟨0, by simp [exN], ?_⟩
    have e : hornR lo hi (ders [a]) = (0, 0, 0) := rfl
    rw [e]; decide
  | [a, b], _, _ =>
    have e : ders [a, b] = [b * 1] := rfl
    rw [e] at P h ⊢
    generalize hornR lo hi [b * 1] = S at *
    obtain ⟨a1, a2⟩ := P (2 * m) (by omega) (by omega) 0 rfl
    obtain ⟨b1, b2⟩ := P (n + m) (by omega) (by omega) 0 rfl
    obtain ⟨c1, c2⟩ := P (2 * n) (by omega) (by omega) 0 rfl
    refine ⟨8000000000 * (hvq 2 (2 * m) [b * 1] + 4 * hvq 2 (n + m) [b * 1] + hvq 2 (2 * n) [b * 1]), ?_, by omega, by omega⟩
    simp [exN, hvq]; grind
  | [a, b, c], _, _ =>
    have e : ders [a, b, c] = [b * 1, c * 2] := rfl
    rw [e] at P h ⊢
    generalize hornR lo hi [b * 1, c * 2] = S at *
    obtain ⟨a1, a2⟩ := P (2 * m) (by omega) (by omega) 1 rfl
    obtain ⟨b1, b2⟩ := P (n + m) (by omega) (by omega) 1 rfl
    obtain ⟨c1, c2⟩ := P (2 * n) (by omega) (by omega) 1 rfl
    refine ⟨4000000 * (hvq 2 (2 * m) [b * 1, c * 2] + 4 * hvq 2 (n + m) [b * 1, c * 2] + hvq 2 (2 * n) [b * 1, c * 2]), ?_, by omega, by omega⟩
    simp [exN, hvq]; grind
  | [a, b, c, d], _, _ =>
    have e : ders [a, b, c, d] = [b * 1, c * 2, d * 3] := rfl
    rw [e] at P h ⊢
    generalize hornR lo hi [b * 1, c * 2, d * 3] = S at *
    obtain ⟨a1, a2⟩ := P (2 * m) (by omega) (by omega) 2 rfl
    obtain ⟨b1, b2⟩ := P (n + m) (by omega) (by omega) 2 rfl
    obtain ⟨c1, c2⟩ := P (2 * n) (by omega) (by omega) 2 rfl
    refine ⟨2000 * (hvq 2 (2 * m) [b * 1, c * 2, d * 3] + 4 * hvq 2 (n + m) [b * 1, c * 2, d * 3] + hvq 2 (2 * n) [b * 1, c * 2, d * 3]), ?_, by omega, by omega⟩
    simp [exN, hvq]; grind
  | [a, b, c, d, f], _, _ =>
    have e : ders [a, b, c, d, f] = [b * 1, c * 2, d * 3, f * 4] := rfl
    rw [e] at P h ⊢
    generalize hornR lo hi [b * 1, c * 2, d * 3, f * 4] = S at *
    obtain ⟨a1, a2⟩ := P (2 * m) (by omega) (by omega) 3 rfl
    obtain ⟨b1, b2⟩ := P (n + m) (by omega) (by omega) 3 rfl
    obtain ⟨c1, c2⟩ := P (2 * n) (by omega) (by omega) 3 rfl
    refine ⟨hvq 2 (2 * m) [b * 1, c * 2, d * 3, f * 4] + 4 * hvq 2 (n + m) [b * 1, c * 2, d * 3, f * 4] + hvq 2 (2 * n) [b * 1, c * 2, d * 3, f * 4], ?_, by omega, by omega⟩
    simp [exN, hvq]; grind
/-- What it is is in the range from the middle (from any number of the span): at, and the slope times how far. -/
theorem center_has {lo hi n m al ah fl' fh : Int} {p : List Int} (h0 : p ≠ []) (h5 : p.length ≤ 5) (hn1 : lo ≤ n) (hn2 : n ≤ hi) (hm1 : lo ≤ m) (hm2 : m ≤ hi)
    (h : (hornR lo hi (ders p)).2.2 = 0) (ha : al * 1000000000000 ≤ exN m p p.length) (hb : exN m p p.length ≤ ah * 1000000000000) (hf1 : fl' ≤ n - m) (hf2 : n - m ≤ fh)
    (ht : (stimesR (hornR lo hi (ders p)).1 (hornR lo hi (ders p)).2.1 fl' fh).2.2 = 0) :
    (al + (stimesR (hornR lo hi (ders p)).1 (hornR lo hi (ders p)).2.1 fl' fh).1) * 1000000000000 ≤ exN n p p.length ∧
    exN n p p.length ≤ (ah + (stimesR (hornR lo hi (ders p)).1 (hornR lo hi (ders p)).2.1 fl' fh).2.1) * 1000000000000 := by
  obtain ⟨W, e, w1, w2⟩ := slope_has h0 h5 hn1 hn2 hm1 hm2 h
  obtain ⟨t1, t2⟩ := stimes_by (by decide) w1 w2 hf1 hf2 ht
  generalize stimesR (hornR lo hi (ders p)).1 (hornR lo hi (ders p)).2.1 fl' fh = T at *
  rw [← e] at t1 t2
  omega
/-- Where the slope is nowhere below 0 a greater number gives no less. -/
theorem rises {lo hi n m : Int} {p : List Int} (h0 : p ≠ []) (h5 : p.length ≤ 5) (hn1 : lo ≤ n) (hn2 : n ≤ hi) (hm1 : lo ≤ m) (hm2 : m ≤ hi) (h : (hornR lo hi (ders p)).2.2 = 0)
    (hs : 0 ≤ (hornR lo hi (ders p)).1) (hnm : n ≤ m) : exN n p p.length ≤ exN m p p.length := by
  obtain ⟨W, e, w1, w2⟩ := slope_has h0 h5 hm1 hm2 hn1 hn2 h
  have : 0 ≤ W * (m - n) := Int.mul_nonneg (by omega) (by omega)
  omega
theorem falls {lo hi n m : Int} {p : List Int} (h0 : p ≠ []) (h5 : p.length ≤ 5) (hn1 : lo ≤ n) (hn2 : n ≤ hi) (hm1 : lo ≤ m) (hm2 : m ≤ hi) (h : (hornR lo hi (ders p)).2.2 = 0)
    (hs : (hornR lo hi (ders p)).2.1 ≤ 0) (hnm : n ≤ m) : exN m p p.length ≤ exN n p p.length := by
  obtain ⟨W, e, w1, w2⟩ := slope_has h0 h5 hn1 hn2 hm1 hm2 h
  have : 0 ≤ W * (n - m) := Int.mul_nonneg_of_nonpos_of_nonpos (by omega) (by omega)
  omega
end Um
namespace Um
set_option linter.unusedSimpArgs false

theorem stimes_nought {lo hi : Int} (_ : lo ≤ hi) : stimesR 0 0 lo hi = (0, 0, 0) := by
  unfold stimesR mn4 mx4
  rw [Int.zero_mul, Int.zero_mul]
  decide +kernel
theorem hstep_first {lo hi c : Int} (hl : lo ≤ hi) (hm : may c = true) : hstep lo hi (0, 0, 0) c = (c, c, 0) := by
  unfold hstep
  simp only [stimes_nought hl]
  rw [if_pos trivial, if_pos trivial]
  unfold addR fit
  rw [Int.zero_add, if_pos ⟨hm, hm⟩]
/-- As the code goes: begun with 0. -/
def hcR (lo hi : Int) : List Int → Int × Int × Int
  | [] => (0, 0, 0)
  | c :: r => hstep lo hi (hcR lo hi r) c
theorem hc_horn {lo hi : Int} (hl : lo ≤ hi) : ∀ (p : List Int), (∀ c ∈ p, may c = true) → hcR lo hi p = hornR lo hi p
  | [], _ => rfl
  | [c], h => hstep_first hl (h c (by simp))
  | c :: d :: r, h => by
    have i := hc_horn hl (d :: r) (fun x hx => h x (List.mem_cons_of_mem _ hx))
    show hstep lo hi (hcR lo hi (d :: r)) c = hstep lo hi (hornR lo hi (d :: r)) c
    rw [i]
theorem hc_chk {lo hi : Int} (hl : lo ≤ hi) (p : List Int) (h : ∀ c ∈ p, may c = true) (h0 : (hcR lo hi p).2.2 = 0) : chk (hcR lo hi p).1 (hcR lo hi p).2.1 = 0 := by
  cases p with
  | nil => show chk 0 0 = 0; decide
  | cons c r => rw [hc_horn hl _ h] at h0 ⊢; exact horn_chk hl _ (by simp) h h0
theorem hc_fault {lo hi : Int} (p : List Int) : (hcR lo hi p).2.2 = 0 ∨ hcR lo hi p = (0, 0, 4) := by
  cases p with
  | nil => exact .inl rfl
  | cons c r => exact hstep_fault _ _ _ _
/-- The last k factors. -/
def tl (p : List Int) (k : Nat) : List Int := p.drop (p.length - k)
theorem tl_zero (p : List Int) : tl p 0 = [] := by unfold tl; simp
theorem tl_all (p : List Int) : tl p p.length = p := by unfold tl; simp
theorem tl_succ {p : List Int} {k : Nat} (h : k < p.length) : tl p (k + 1) = (p[p.length - 1 - k]?.getD 0) :: tl p k := by
  unfold tl
  have e : p.length - k = p.length - (k + 1) + 1 := by omega
  rw [e, List.drop_eq_getElem_cons (by omega : p.length - (k + 1) < p.length)]
  congr 1
  rw [show p.length - 1 - k = p.length - (k + 1) by omega, List.getElem?_eq_getElem (by omega)]; rfl
theorem tl_mem {p : List Int} {k : Nat} {c : Int} (h : c ∈ tl p k) : c ∈ p := List.mem_of_mem_drop h
theorem at_mem {p : List Int} {k : Nat} (h : k < p.length) : p[k]?.getD 0 ∈ p := by rw [List.getElem?_eq_getElem h]; exact List.getElem_mem h
theorem hc_stay {lo hi : Int} {p : List Int} : ∀ {k m : Nat}, k ≤ m → m ≤ p.length → hcR lo hi (tl p k) = (0, 0, 4) → hcR lo hi (tl p m) = (0, 0, 4)
  | k, 0, h1, _, h => by obtain rfl : k = 0 := by omega
                         exact h
  | k, m + 1, h1, h2, h => by
    by_cases e : k = m + 1
    · subst e; exact h
    · have i := hc_stay (m := m) (by omega : k ≤ m) (by omega) h
      rw [tl_succ (by omega)]
      show hstep lo hi (hcR lo hi (tl p m)) _ = _
      rw [i]; rfl
/-- Times, and added: as the code does it, whatever comes in. -/
def taR (al ah bl bh cl ch : Int) : Int × Int × Int :=
  if (made (stimesR al ah bl bh) al ah bl bh).2.2 = 0 then made (addR (made (stimesR al ah bl bh) al ah bl bh).1 (made (stimesR al ah bl bh) al ah bl bh).2.1 cl ch) (made (stimesR al ah bl bh) al ah bl bh).1 (made (stimesR al ah bl bh) al ah bl bh).2.1 cl ch
  else (0, 0, (made (stimesR al ah bl bh) al ah bl bh).2.2)
theorem ta_right {al ah bl bh cl ch : Int} (h1 : chk al ah = 0) (h2 : chk bl bh = 0) (h3 : chk cl ch = 0) :
    taR al ah bl bh cl ch = if (stimesR al ah bl bh).2.2 = 0 then addR (stimesR al ah bl bh).1 (stimesR al ah bl bh).2.1 cl ch else (0, 0, 4) := by
  unfold taR
  rw [made_good h1 h2]
  by_cases h : (stimesR al ah bl bh).2.2 = 0
  · rw [if_pos h, if_pos h, made_good (stimes_chk (chk_ok.1 h1).2.2 (chk_ok.1 h2).2.2 h) h3]
  · rw [if_neg h, if_neg h, (stimes_fault al ah bl bh).resolve_left h]
theorem chk_alone {c : Int} (h : may c = true) : chk c c = 0 := chk_ok.2 ⟨h, h, Int.le_refl _⟩
theorem ta_horn {lo hi c : Int} {s : Int × Int × Int} (hc : chk lo hi = 0) (hs : chk s.1 s.2.1 = 0) (h0 : s.2.2 = 0) (hm : may c = true) : taR s.1 s.2.1 lo hi c c = hstep lo hi s c := by
  rw [ta_right hs hc (chk_alone hm)]
  unfold hstep
  rw [if_pos h0]
theorem add_turn (al ah bl bh : Int) : addR al ah bl bh = addR bl bh al ah := by unfold addR; rw [Int.add_comm al, Int.add_comm ah]
theorem ta_pows {lo hi c : Int} {s : Int × Int × Int} {k : Nat} (hc : chk lo hi = 0) (hk : k ≤ 4) (hs : chk s.1 s.2.1 = 0) (h0 : s.2.2 = 0) (hm : may c = true) (hp : (powR lo hi k).2.2 = 0) :
    taR c c (powR lo hi k).1 (powR lo hi k).2.1 s.1 s.2.1 = pstep lo hi s c k := by
  rw [ta_right (chk_alone hm) (pow_chk hc hk hp) hs]
  unfold pstep
  rw [if_pos h0, if_pos hp]
  by_cases h : (stimesR c c (powR lo hi k).1 (powR lo hi k).2.1).2.2 = 0
  · rw [if_pos h, if_pos h, add_turn]
  · rw [if_neg h, if_neg h]
theorem pows_dead {lo hi : Int} {p : List Int} {k : Nat} (h : ¬ (powR lo hi k).2.2 = 0) : powsN lo hi p (k + 1) = (0, 0, 4) := by
  show pstep lo hi (powsN lo hi p k) (p.getD k 0) k = _
  unfold pstep
  by_cases h1 : (powsN lo hi p k).2.2 = 0
  · rw [if_pos h1, if_neg h]
  · rw [if_neg h1]
/-- What Horner, and Powers, answer to anything. -/
def hornAll (p : List Int) (lo hi : Int) : Int × Int × Int := if over p lo hi = 0 then hornR lo hi p else (0, 0, over p lo hi)
def powsAll (p : List Int) (lo hi : Int) : Int × Int × Int := if over p lo hi = 0 then powsN lo hi p p.length else (0, 0, over p lo hi)
end Um
namespace Um
set_option linter.unusedSimpArgs false

/-- Small: a polynomial and a number. -/
def small (p : List Int) (n : Int) : Bool := decide (0 < p.length ∧ p.length ≤ 5 ∧ -5000 ≤ n ∧ n ≤ 5000 ∧ ∀ c ∈ p, -5000 ≤ c ∧ c ≤ 5000)
theorem small_ok {p : List Int} {n : Int} : small p n = true ↔ 0 < p.length ∧ p.length ≤ 5 ∧ -5000 ≤ n ∧ n ≤ 5000 ∧ ∀ c ∈ p, -5000 ≤ c ∧ c ≤ 5000 := by unfold small; simp
theorem small_no {p : List Int} {n : Int} (h : ¬ (0 < p.length ∧ p.length ≤ 5 ∧ -5000 ≤ n ∧ n ≤ 5000 ∧ ∀ c ∈ p, -5000 ≤ c ∧ c ≤ 5000)) : small p n = false := by
  unfold small; exact decide_eq_false h
/-- One term, so many times on: n as often as its power, then 1000. -/
def it (c n : Int) (i : Nat) : Nat → Int
  | 0 => c
  | j + 1 => if j < i then it c n i j * n else it c n i j * 1000
theorem it_succ (c n : Int) (i j : Nat) : it c n i (j + 1) = if j < i then it c n i j * n else it c n i j * 1000 := rfl
theorem it_is (c n : Int) (i : Nat) : ∀ j, it c n i j = c * n ^ (min j i) * 1000 ^ (j - i)
  | 0 => by simp [it]
  | j + 1 => by
    rw [it_succ, it_is c n i j]
    by_cases h : j < i
    · rw [if_pos h, show min j i = j by omega, show min (j + 1) i = j + 1 by omega, show j - i = 0 by omega, show j + 1 - i = 0 by omega, Int.pow_succ]
      simp [Int.mul_assoc]
    · rw [if_neg h, show min j i = i by omega, show min (j + 1) i = i by omega, show j + 1 - i = (j - i) + 1 by omega, Int.pow_succ, Int.mul_assoc]
theorem it_four (c n : Int) {i : Nat} (h : i ≤ 4) : it c n i 4 = c * n ^ i * 1000 ^ (4 - i) := by rw [it_is, show min 4 i = i by omega]
theorem mul_by {a b A B : Int} (h1 : -A ≤ a) (h2 : a ≤ A) (h3 : -B ≤ b) (h4 : b ≤ B) (hB : 0 ≤ B) : -(A * B) ≤ a * b ∧ a * b ≤ A * B := by
  have hA : 0 ≤ A := by omega
  have k : (a * b).natAbs ≤ (A * B).natAbs := by
    rw [Int.natAbs_mul, Int.natAbs_mul]
    exact Nat.mul_le_mul (by omega) (by omega)
  have p := Int.mul_nonneg hA hB
  omega
theorem it_bound {c n : Int} (hc : -5000 ≤ c ∧ c ≤ 5000) (hn : -5000 ≤ n ∧ n ≤ 5000) (i : Nat) : ∀ j, -(5000 * 5000 ^ j) ≤ it c n i j ∧ it c n i j ≤ 5000 * 5000 ^ j
  | 0 => by simp [it]; omega
  | j + 1 => by
    have h := it_bound hc hn i j
    have hp : (0 : Int) ≤ 5000 ^ j := Int.pow_nonneg (by decide)
    rw [it_succ]
    have e : (5000 : Int) * 5000 ^ (j + 1) = 5000 * 5000 ^ j * 5000 := by rw [Int.pow_succ, Int.mul_assoc]
    rw [e]
    split
    · exact mul_by h.1 h.2 hn.1 hn.2 (by decide)
    · have := mul_by h.1 h.2 (show (-5000 : Int) ≤ 1000 by decide) (show (1000 : Int) ≤ 5000 by decide) (by decide)
      exact this
theorem it_small {c n : Int} (hc : -5000 ≤ c ∧ c ≤ 5000) (hn : -5000 ≤ n ∧ n ≤ 5000) (i : Nat) {j : Nat} (hj : j ≤ 4) : -3125000000000000000 ≤ it c n i j ∧ it c n i j ≤ 3125000000000000000 := by
  have h := it_bound hc hn i j
  rcases (by omega : j = 0 ∨ j = 1 ∨ j = 2 ∨ j = 3 ∨ j = 4) with rfl | rfl | rfl | rfl | rfl <;> simp at h <;> omega
theorem ex_bound {n : Int} {p : List Int} (h : small p n = true) {k : Nat} (hk : k ≤ p.length) : -4000000000000000000 ≤ exN n p k ∧ exN n p k ≤ 4000000000000000000 := by
  obtain ⟨_, h5, n1, n2, hc⟩ := small_ok.1 h
  have := ex_small h5 hc n1 n2 k hk
  have hk5 : k ≤ 5 := by omega
  rcases (by omega : k = 0 ∨ k = 1 ∨ k = 2 ∨ k = 3 ∨ k = 4 ∨ k = 5) with rfl | rfl | rfl | rfl | rfl | rfl <;> simp at this ⊢ <;> omega
theorem ex_step {n : Int} {p : List Int} {k : Nat} (h : small p n = true) (hk : k < p.length) : exN n p k + it (p[k]?.getD 0) n k 4 = exN n p (k + 1) := by
  obtain ⟨_, h5, _⟩ := small_ok.1 h
  rw [it_four _ _ (by omega)]
  show _ = exN n p k + p.getD k 0 * n ^ k * 1000 ^ (4 - k)
  rw [List.getD_eq_getElem?_getD]
end Um
namespace Um
set_option linter.unusedSimpArgs false

def slopeR (lo hi : Int) (p : List Int) : Int × Int × Int := if (derR p).2 = 0 then hornR lo hi (ders p) else (0, 0, 4)
def slopeAll (p : List Int) (lo hi : Int) : Int × Int × Int := if over p lo hi = 0 then slopeR lo hi p else (0, 0, over p lo hi)
/-- How much it may be other than at m. -/
def chgR (lo hi : Int) (p : List Int) (m : Int) : Int × Int × Int :=
  if (slopeR lo hi p).2.2 = 0 then (if (lessR lo hi m m).2.2 = 0 then stimesR (slopeR lo hi p).1 (slopeR lo hi p).2.1 (lessR lo hi m m).1 (lessR lo hi m m).2.1 else (0, 0, 4)) else (0, 0, 4)
def centR (lo hi : Int) (p : List Int) : Int × Int × Int :=
  if (hornR (midR lo hi) (midR lo hi) p).2.2 = 0 then (if (chgR lo hi p (midR lo hi)).2.2 = 0 then addR (hornR (midR lo hi) (midR lo hi) p).1 (hornR (midR lo hi) (midR lo hi) p).2.1 (chgR lo hi p (midR lo hi)).1 (chgR lo hi p (midR lo hi)).2.1 else (0, 0, 4)) else (0, 0, 4)
def centAll (p : List Int) (lo hi : Int) : Int × Int × Int := if over p lo hi = 0 then centR lo hi p else (0, 0, over p lo hi)
def bestR (lo hi : Int) (p : List Int) : Int × Int × Int :=
  if (hornR lo hi p).2.2 = 0 then (if (powsN lo hi p p.length).2.2 = 0 then (if (centR lo hi p).2.2 = 0 then
    (max (max (hornR lo hi p).1 (powsN lo hi p p.length).1) (centR lo hi p).1, min (min (hornR lo hi p).2.1 (powsN lo hi p p.length).2.1) (centR lo hi p).2.1, 0) else (0, 0, 4)) else (0, 0, 4)) else (0, 0, 4)
def bestAll (p : List Int) (lo hi : Int) : Int × Int × Int := if over p lo hi = 0 then bestR lo hi p else (0, 0, over p lo hi)

theorem ders_len (p : List Int) (h5 : p.length ≤ 5) : (ders p).length ≤ 5 := by
  by_cases h : 1 < p.length
  · rw [ders_length h]; omega
  · unfold ders; rw [if_pos (by omega)]; simp
theorem der_ok {p : List Int} (h : (derR p).2 = 0) : derR p = (ders p, 0) ∧ ∀ c ∈ ders p, may c = true := by
  unfold derR at h ⊢
  by_cases ha : (ders p).all may = true
  · rw [if_pos ha]; exact ⟨rfl, fun c hc => List.all_eq_true.1 ha c hc⟩
  · rw [if_neg ha] at h; exact absurd h (by decide)
theorem der_no {p : List Int} (h : ¬ (derR p).2 = 0) : derR p = ([], 4) := by
  unfold derR at h ⊢
  by_cases ha : (ders p).all may = true
  · rw [if_pos ha] at h; exact absurd rfl h
  · rw [if_neg ha]
theorem der_pchk {p : List Int} (hp : pchk p = 0) (h : (derR p).2 = 0) : pchk (ders p) = 0 :=
  pchk_ok.2 ⟨ders_some p, ders_len p (pchk_ok.1 hp).2.1, (der_ok h).2⟩
theorem slope_ok {lo hi : Int} {p : List Int} (h : (slopeR lo hi p).2.2 = 0) : (derR p).2 = 0 ∧ slopeR lo hi p = hornR lo hi (ders p) ∧ (hornR lo hi (ders p)).2.2 = 0 := by
  unfold slopeR at h ⊢
  by_cases hd : (derR p).2 = 0
  · rw [if_pos hd] at h ⊢; exact ⟨hd, rfl, h⟩
  · rw [if_neg hd] at h; exact absurd h (by decide)
theorem slope_fault (lo hi : Int) (p : List Int) : (slopeR lo hi p).2.2 = 0 ∨ slopeR lo hi p = (0, 0, 4) := by
  unfold slopeR
  by_cases hd : (derR p).2 = 0
  · rw [if_pos hd]; exact horn_fault _ _ _
  · rw [if_neg hd]; exact .inr rfl
theorem slope_chk {lo hi : Int} {p : List Int} (hl : lo ≤ hi) (h : (slopeR lo hi p).2.2 = 0) : chk (slopeR lo hi p).1 (slopeR lo hi p).2.1 = 0 := by
  obtain ⟨hd, e, h2⟩ := slope_ok h
  rw [e]
  exact horn_chk hl _ (ders_some p) (der_ok hd).2 h2
/-- The slope, as the code makes it: Horner of what Derive tells. -/
theorem slope_code {p : List Int} {lo hi : Int} (ho : over p lo hi = 0) (h : (derR p).2 = 0) : hornAll (derR p).1 lo hi = slopeR lo hi p := by
  have h1 := over_ok.1 ho
  unfold slopeR hornAll
  rw [if_pos h, (der_ok h).1, if_pos (over_ok.2 ⟨der_pchk h1.1 h, h1.2⟩)]
theorem less_is {al ah bl bh : Int} (h : (lessR al ah bl bh).2.2 = 0) : lessR al ah bl bh = (al - bh, ah - bl, 0) ∧ may (al - bh) = true ∧ may (ah - bl) = true := by
  unfold lessR at h ⊢
  rcases fit_cases (al - bh) (ah - bl) with e | ⟨e, m⟩
  · rw [e] at h; exact absurd h (by decide)
  · exact ⟨e, m⟩
theorem less_fault (al ah bl bh : Int) : (lessR al ah bl bh).2.2 = 0 ∨ lessR al ah bl bh = (0, 0, 4) := by
  unfold lessR
  rcases fit_cases (al - bh) (ah - bl) with e | ⟨e, _⟩
  · exact .inr e
  · rw [e]; exact .inl rfl
theorem less_chk {lo hi m : Int} (hl : lo ≤ hi) (h : (lessR lo hi m m).2.2 = 0) : chk (lessR lo hi m m).1 (lessR lo hi m m).2.1 = 0 := by
  obtain ⟨e, m1, m2⟩ := less_is h
  rw [e]; exact chk_ok.2 ⟨m1, m2, by show lo - m ≤ hi - m; omega⟩
theorem chg_ok {lo hi m : Int} {p : List Int} (h : (chgR lo hi p m).2.2 = 0) : (slopeR lo hi p).2.2 = 0 ∧ (lessR lo hi m m).2.2 = 0 ∧
    chgR lo hi p m = stimesR (slopeR lo hi p).1 (slopeR lo hi p).2.1 (lessR lo hi m m).1 (lessR lo hi m m).2.1 ∧ (stimesR (slopeR lo hi p).1 (slopeR lo hi p).2.1 (lessR lo hi m m).1 (lessR lo hi m m).2.1).2.2 = 0 := by
  unfold chgR at h ⊢
  by_cases h1 : (slopeR lo hi p).2.2 = 0
  · rw [if_pos h1] at h ⊢
    by_cases h2 : (lessR lo hi m m).2.2 = 0
    · rw [if_pos h2] at h ⊢; exact ⟨h1, h2, rfl, h⟩
    · rw [if_neg h2] at h; exact absurd h (by decide)
  · rw [if_neg h1] at h; exact absurd h (by decide)
theorem chg_fault (lo hi : Int) (p : List Int) (m : Int) : (chgR lo hi p m).2.2 = 0 ∨ chgR lo hi p m = (0, 0, 4) := by
  unfold chgR
  by_cases h1 : (slopeR lo hi p).2.2 = 0
  · rw [if_pos h1]
    by_cases h2 : (lessR lo hi m m).2.2 = 0
    · rw [if_pos h2]; exact stimes_fault _ _ _ _
    · rw [if_neg h2]; exact .inr rfl
  · rw [if_neg h1]; exact .inr rfl
theorem chg_chk {lo hi m : Int} {p : List Int} (hl : lo ≤ hi) (h : (chgR lo hi p m).2.2 = 0) : chk (chgR lo hi p m).1 (chgR lo hi p m).2.1 = 0 := by
  obtain ⟨h1, h2, e, h3⟩ := chg_ok h
  rw [e]
  exact stimes_chk (chk_ok.1 (slope_chk hl h1)).2.2 (chk_ok.1 (less_chk hl h2)).2.2 h3
/-- As the code makes it, whatever comes in. -/
theorem chg_code {lo hi m : Int} {p : List Int} (hc : chk lo hi = 0) (hm : may m = true) :
    (if (slopeR lo hi p).2.2 = 0 then (if (made (lessR lo hi m m) lo hi m m).2.2 = 0 then made (stimesR (slopeR lo hi p).1 (slopeR lo hi p).2.1 (made (lessR lo hi m m) lo hi m m).1 (made (lessR lo hi m m) lo hi m m).2.1) (slopeR lo hi p).1 (slopeR lo hi p).2.1 (made (lessR lo hi m m) lo hi m m).1 (made (lessR lo hi m m) lo hi m m).2.1 else (0, 0, (made (lessR lo hi m m) lo hi m m).2.2)) else (0, 0, (slopeR lo hi p).2.2)) = chgR lo hi p m := by
  have hl := (chk_ok.1 hc).2.2
  rw [made_good hc (chk_alone hm)]
  unfold chgR
  by_cases h1 : (slopeR lo hi p).2.2 = 0
  · rw [if_pos h1, if_pos h1]
    by_cases h2 : (lessR lo hi m m).2.2 = 0
    · rw [if_pos h2, if_pos h2, made_good (slope_chk hl h1) (less_chk hl h2)]
    · rw [if_neg h2, if_neg h2, (less_fault lo hi m m).resolve_left h2]
  · rw [if_neg h1, if_neg h1, (slope_fault lo hi p).resolve_left h1]
theorem mid_may {lo hi : Int} (hc : chk lo hi = 0) : may (midR lo hi) = true := by
  obtain ⟨h1, h2, h3⟩ := chk_ok.1 hc
  have a := (may_iff lo).1 h1
  have b := (may_iff hi).1 h2
  have c := mid_has h3
  exact (may_iff _).2 ⟨by omega, by omega⟩
theorem cent_ok {lo hi : Int} {p : List Int} (h : (centR lo hi p).2.2 = 0) : (hornR (midR lo hi) (midR lo hi) p).2.2 = 0 ∧ (chgR lo hi p (midR lo hi)).2.2 = 0 ∧
    centR lo hi p = addR (hornR (midR lo hi) (midR lo hi) p).1 (hornR (midR lo hi) (midR lo hi) p).2.1 (chgR lo hi p (midR lo hi)).1 (chgR lo hi p (midR lo hi)).2.1 ∧
    (addR (hornR (midR lo hi) (midR lo hi) p).1 (hornR (midR lo hi) (midR lo hi) p).2.1 (chgR lo hi p (midR lo hi)).1 (chgR lo hi p (midR lo hi)).2.1).2.2 = 0 := by
  unfold centR at h ⊢
  by_cases h1 : (hornR (midR lo hi) (midR lo hi) p).2.2 = 0
  · rw [if_pos h1] at h ⊢
    by_cases h2 : (chgR lo hi p (midR lo hi)).2.2 = 0
    · rw [if_pos h2] at h ⊢; exact ⟨h1, h2, rfl, h⟩
    · rw [if_neg h2] at h; exact absurd h (by decide)
  · rw [if_neg h1] at h; exact absurd h (by decide)
theorem cent_fault (lo hi : Int) (p : List Int) : (centR lo hi p).2.2 = 0 ∨ centR lo hi p = (0, 0, 4) := by
  unfold centR
  by_cases h1 : (hornR (midR lo hi) (midR lo hi) p).2.2 = 0
  · rw [if_pos h1]
    by_cases h2 : (chgR lo hi p (midR lo hi)).2.2 = 0
    · rw [if_pos h2]; exact add_fault _ _ _ _
    · rw [if_neg h2]; exact .inr rfl
  · rw [if_neg h1]; exact .inr rfl
theorem cent_chk {lo hi : Int} {p : List Int} (ho : over p lo hi = 0) (h : (centR lo hi p).2.2 = 0) : chk (centR lo hi p).1 (centR lo hi p).2.1 = 0 := by
  obtain ⟨hp, hc⟩ := over_ok.1 ho
  obtain ⟨h1, h2, e, h3⟩ := cent_ok h
  have hp' := pchk_ok.1 hp
  rw [e]
  exact add_chk (chk_ok.1 (horn_chk (Int.le_refl _) p hp'.1 hp'.2.2 h1)).2.2 (chk_ok.1 (chg_chk (chk_ok.1 hc).2.2 h2)).2.2 h3
/-- What it is is in the range from the middle. -/
theorem cent_value {lo hi n : Int} {p : List Int} (ho : over p lo hi = 0) (hn1 : lo ≤ n) (hn2 : n ≤ hi) (h : (centR lo hi p).2.2 = 0) :
    (centR lo hi p).1 ≤ fl (exN n p p.length) 1000000000000 ∧ ce (exN n p p.length) 1000000000000 ≤ (centR lo hi p).2.1 := by
  obtain ⟨hp, hc⟩ := over_ok.1 ho
  have hp' := pchk_ok.1 hp
  have hl := (chk_ok.1 hc).2.2
  obtain ⟨h1, h2, e, h3⟩ := cent_ok h
  obtain ⟨s1, s2, e2, s3⟩ := chg_ok h2
  obtain ⟨d1, e3, d2⟩ := slope_ok s1
  have hm := mid_has hl
  have hv := horn_value hp'.1 hp'.2.1 (Int.le_refl (midR lo hi)) (Int.le_refl _) h1
  have f1 := fl_spec_pos (n := exN (midR lo hi) p p.length) (d := 1000000000000) (by decide)
  have f2 := ce_spec_pos (n := exN (midR lo hi) p p.length) (d := 1000000000000) (by decide)
  obtain ⟨e4, _, _⟩ := less_is s2
  rw [e, (add_is h3).1, e2]
  rw [e3, e4] at s3 ⊢
  have k := center_has (n := n) (m := midR lo hi) (al := (hornR (midR lo hi) (midR lo hi) p).1) (ah := (hornR (midR lo hi) (midR lo hi) p).2.1) (fl' := lo - midR lo hi) (fh := hi - midR lo hi)
    hp'.1 hp'.2.1 hn1 hn2 hm.1 hm.2.1 d2 (by omega) (by omega) (by omega) (by omega) s3
  exact ⟨low_by (by decide) k.1, high_by (by decide) k.2⟩
/-- All three have what it is at an end, so they meet. -/
theorem best_meets {lo hi : Int} {p : List Int} (ho : over p lo hi = 0) (h1 : (hornR lo hi p).2.2 = 0) (h2 : (powsN lo hi p p.length).2.2 = 0) :
    max (hornR lo hi p).1 (powsN lo hi p p.length).1 ≤ min (hornR lo hi p).2.1 (powsN lo hi p p.length).2.1 ∧
    ((centR lo hi p).2.2 = 0 → max (max (hornR lo hi p).1 (powsN lo hi p p.length).1) (centR lo hi p).1 ≤ min (min (hornR lo hi p).2.1 (powsN lo hi p p.length).2.1) (centR lo hi p).2.1) := by
  obtain ⟨hp, hc⟩ := over_ok.1 ho
  have hp' := pchk_ok.1 hp
  have hl := (chk_ok.1 hc).2.2
  have a := horn_value hp'.1 hp'.2.1 (Int.le_refl lo) hl h1
  have b := pows_value hc hp'.2.1 (Int.le_refl lo) hl h2
  have f := (fl_le_ce (exN lo p p.length) 1000000000000 (by decide)).1
  refine ⟨by omega, fun h3 => ?_⟩
  have c := cent_value ho (Int.le_refl lo) hl h3
  omega
theorem best_ok {lo hi : Int} {p : List Int} (h : (bestR lo hi p).2.2 = 0) : (hornR lo hi p).2.2 = 0 ∧ (powsN lo hi p p.length).2.2 = 0 ∧ (centR lo hi p).2.2 = 0 ∧
    bestR lo hi p = (max (max (hornR lo hi p).1 (powsN lo hi p p.length).1) (centR lo hi p).1, min (min (hornR lo hi p).2.1 (powsN lo hi p p.length).2.1) (centR lo hi p).2.1, 0) := by
  unfold bestR at h ⊢
  by_cases h1 : (hornR lo hi p).2.2 = 0
  · rw [if_pos h1] at h ⊢
    by_cases h2 : (powsN lo hi p p.length).2.2 = 0
    · rw [if_pos h2] at h ⊢
      by_cases h3 : (centR lo hi p).2.2 = 0
      · rw [if_pos h3]; exact ⟨h1, h2, h3, rfl⟩
      · rw [if_neg h3] at h; exact absurd h (by decide)
    · rw [if_neg h2] at h; exact absurd h (by decide)
  · rw [if_neg h1] at h; exact absurd h (by decide)
theorem best_fault (lo hi : Int) (p : List Int) : (bestR lo hi p).2.2 = 0 ∨ bestR lo hi p = (0, 0, 4) := by
  unfold bestR
  split
  · split
    · split
      · exact .inl rfl
      · exact .inr rfl
    · exact .inr rfl
  · exact .inr rfl
/-- At one number the range from the middle is the range. -/
theorem cent_point {n : Int} {p : List Int} (ho : over p n n = 0) (h : (centR n n p).2.2 = 0) : centR n n p = hornR n n p := by
  obtain ⟨hp, hc⟩ := over_ok.1 ho
  have hp' := pchk_ok.1 hp
  obtain ⟨h1, h2, e, h3⟩ := cent_ok h
  obtain ⟨s1, s2, e2, s3⟩ := chg_ok h2
  have em : midR n n = n := by
    have := mid_has (Int.le_refl n)
    omega
  rw [em] at h1 h2 e h3 e2 s2 s3
  have hk := horn_chk (Int.le_refl n) p hp'.1 hp'.2.2 h1
  have z : (lessR n n n n) = (0, 0, 0) := by
    rw [(less_is s2).1, Int.sub_self]
  rw [z] at e2
  have ez : ∀ a b : Int, stimesR a b 0 0 = (0, 0, 0) := fun a b => by
    unfold stimesR mn4 mx4
    rw [Int.mul_zero, Int.mul_zero]
    decide +kernel
  rw [e, e2]
  show addR (hornR n n p).1 (hornR n n p).2.1 (stimesR (slopeR n n p).1 (slopeR n n p).2.1 0 0).1 (stimesR (slopeR n n p).1 (slopeR n n p).2.1 0 0).2.1 = hornR n n p
  rw [ez]
  obtain ⟨m1, m2, _⟩ := chk_ok.1 hk
  unfold addR fit
  rw [Int.add_zero, Int.add_zero, if_pos ⟨m1, m2⟩]
  generalize hornR n n p = R at *
  obtain ⟨a, b, c⟩ := R
  simp only at h1
  subst h1
  rfl
end Um
namespace Um
set_option linter.unusedSimpArgs false

/-- Up alone, down alone, or neither. -/
def wayR (dl dh : Int) : Int := if 0 ≤ dl then 1 else if dh ≤ 0 then -1 else 0
theorem way_cases (dl dh : Int) : (0 ≤ dl ∧ wayR dl dh = 1) ∨ (¬ 0 ≤ dl ∧ dh ≤ 0 ∧ wayR dl dh = -1) ∨ (¬ 0 ≤ dl ∧ ¬ dh ≤ 0 ∧ wayR dl dh = 0) := by
  unfold wayR
  by_cases h1 : 0 ≤ dl
  · rw [if_pos h1]; exact .inl ⟨h1, rfl⟩
  · rw [if_neg h1]
    by_cases h2 : dh ≤ 0
    · rw [if_pos h2]; exact .inr (.inl ⟨h1, h2, rfl⟩)
    · rw [if_neg h2]; exact .inr (.inr ⟨h1, h2, rfl⟩)
/-- From the lower end of one to the upper end of the other one. -/
def endsR (lo hi : Int) (p : List Int) : Int × Int × Int :=
  if (hornR lo lo p).2.2 = 0 then (if (hornR hi hi p).2.2 = 0 then ((hornR lo lo p).1, (hornR hi hi p).2.1, 0) else (0, 0, 4)) else (0, 0, 4)
def monoR (lo hi : Int) (p : List Int) : Int × Int × Int :=
  if (bestR lo hi p).2.2 = 0 then (if wayR (slopeR lo hi p).1 (slopeR lo hi p).2.1 = 0 then bestR lo hi p else if wayR (slopeR lo hi p).1 (slopeR lo hi p).2.1 < 0 then endsR hi lo p else endsR lo hi p) else (0, 0, 4)
def monoAll (p : List Int) (lo hi : Int) : Int × Int × Int := if over p lo hi = 0 then monoR lo hi p else (0, 0, over p lo hi)
/-- The way, and the fault. -/
def wayAll (p : List Int) (lo hi : Int) : Int × Int := if (slopeAll p lo hi).2.2 = 0 then (wayR (slopeAll p lo hi).1 (slopeAll p lo hi).2.1, 0) else (0, (slopeAll p lo hi).2.2)

theorem best_slope {lo hi : Int} {p : List Int} (h : (bestR lo hi p).2.2 = 0) : (slopeR lo hi p).2.2 = 0 :=
  (chg_ok (cent_ok (best_ok h).2.2.1).2.1).1
theorem ends_ok {lo hi : Int} {p : List Int} (h : (endsR lo hi p).2.2 = 0) : (hornR lo lo p).2.2 = 0 ∧ (hornR hi hi p).2.2 = 0 ∧ endsR lo hi p = ((hornR lo lo p).1, (hornR hi hi p).2.1, 0) := by
  unfold endsR at h ⊢
  by_cases h1 : (hornR lo lo p).2.2 = 0
  · rw [if_pos h1] at h ⊢
    by_cases h2 : (hornR hi hi p).2.2 = 0
    · rw [if_pos h2]; exact ⟨h1, h2, rfl⟩
    · rw [if_neg h2] at h; exact absurd h (by decide)
  · rw [if_neg h1] at h; exact absurd h (by decide)
theorem ends_fault (lo hi : Int) (p : List Int) : (endsR lo hi p).2.2 = 0 ∨ endsR lo hi p = (0, 0, 4) := by
  unfold endsR
  split
  · split
    · exact .inl rfl
    · exact .inr rfl
  · exact .inr rfl
theorem mono_fault (lo hi : Int) (p : List Int) : (monoR lo hi p).2.2 = 0 ∨ monoR lo hi p = (0, 0, 4) := by
  unfold monoR
  split
  · split
    · exact best_fault _ _ _
    · split
      · exact ends_fault _ _ _
      · exact ends_fault _ _ _
  · exact .inr rfl
theorem best_value {lo hi n : Int} {p : List Int} (ho : over p lo hi = 0) (hn1 : lo ≤ n) (hn2 : n ≤ hi) (h : (bestR lo hi p).2.2 = 0) :
    (bestR lo hi p).1 ≤ fl (exN n p p.length) 1000000000000 ∧ ce (exN n p p.length) 1000000000000 ≤ (bestR lo hi p).2.1 := by
  obtain ⟨hp, hc⟩ := over_ok.1 ho
  have hp' := pchk_ok.1 hp
  obtain ⟨h1, h2, h3, e⟩ := best_ok h
  have a := horn_value hp'.1 hp'.2.1 hn1 hn2 h1
  have b := pows_value hc hp'.2.1 hn1 hn2 h2
  have c := cent_value ho hn1 hn2 h3
  rw [e]
  show max (max (hornR lo hi p).1 (powsN lo hi p p.length).1) (centR lo hi p).1 ≤ _ ∧ _ ≤ min (min (hornR lo hi p).2.1 (powsN lo hi p p.length).2.1) (centR lo hi p).2.1
  omega
theorem best_chk {lo hi : Int} {p : List Int} (ho : over p lo hi = 0) (h : (bestR lo hi p).2.2 = 0) : chk (bestR lo hi p).1 (bestR lo hi p).2.1 = 0 := by
  obtain ⟨hp, hc⟩ := over_ok.1 ho
  have hp' := pchk_ok.1 hp
  have hl := (chk_ok.1 hc).2.2
  obtain ⟨h1, h2, h3, e⟩ := best_ok h
  obtain ⟨a1, a2, a3⟩ := chk_ok.1 (horn_chk hl p hp'.1 hp'.2.2 h1)
  obtain ⟨b1, b2, b3⟩ := chk_ok.1 (pows_chk hc p p.length hp'.2.1 h2)
  obtain ⟨c1, c2, c3⟩ := chk_ok.1 (cent_chk ho h3)
  have m := (best_meets ho h1 h2).2 h3
  simp only [may_iff] at a1 a2 b1 b2 c1 c2
  rw [e]
  exact chk_ok.2 ⟨(may_iff _).2 (by show -1000000000 ≤ max (max (hornR lo hi p).1 (powsN lo hi p p.length).1) (centR lo hi p).1 ∧ max (max (hornR lo hi p).1 (powsN lo hi p p.length).1) (centR lo hi p).1 ≤ 1000000000; omega),
    (may_iff _).2 (by show -1000000000 ≤ min (min (hornR lo hi p).2.1 (powsN lo hi p p.length).2.1) (centR lo hi p).2.1 ∧ min (min (hornR lo hi p).2.1 (powsN lo hi p p.length).2.1) (centR lo hi p).2.1 ≤ 1000000000; omega), m⟩
/-- What it is is in its range. -/
theorem mono_value {lo hi n : Int} {p : List Int} (ho : over p lo hi = 0) (hn1 : lo ≤ n) (hn2 : n ≤ hi) (h : (monoR lo hi p).2.2 = 0) :
    (monoR lo hi p).1 ≤ fl (exN n p p.length) 1000000000000 ∧ ce (exN n p p.length) 1000000000000 ≤ (monoR lo hi p).2.1 := by
  obtain ⟨hp, hc⟩ := over_ok.1 ho
  have hp' := pchk_ok.1 hp
  have hl := (chk_ok.1 hc).2.2
  unfold monoR at h ⊢
  by_cases hb : (bestR lo hi p).2.2 = 0
  · rw [if_pos hb] at h ⊢
    have hs := best_slope hb
    obtain ⟨_, es, hs2⟩ := slope_ok hs
    rw [es] at h ⊢
    rcases way_cases (hornR lo hi (ders p)).1 (hornR lo hi (ders p)).2.1 with ⟨w1, e⟩ | ⟨_, w1, e⟩ | ⟨_, _, e⟩
    · rw [e] at h ⊢
      rw [if_neg (by decide), if_neg (by decide)] at h ⊢
      obtain ⟨k1, k2, e2⟩ := ends_ok h
      rw [e2]
      have a := horn_value hp'.1 hp'.2.1 (Int.le_refl lo) (Int.le_refl lo) k1
      have b := horn_value hp'.1 hp'.2.1 (Int.le_refl hi) (Int.le_refl hi) k2
      have c := fl_mono (d := 1000000000000) (by decide) (rises hp'.1 hp'.2.1 (Int.le_refl lo) hl hn1 hn2 hs2 w1 hn1)
      have d := ce_mono (d := 1000000000000) (by decide) (rises hp'.1 hp'.2.1 hn1 hn2 hl (Int.le_refl hi) hs2 w1 hn2)
      exact ⟨Int.le_trans a.1 c, Int.le_trans d b.2⟩
    · rw [e] at h ⊢
      rw [if_neg (by decide), if_pos (by decide)] at h ⊢
      obtain ⟨k1, k2, e2⟩ := ends_ok h
      rw [e2]
      have a := horn_value hp'.1 hp'.2.1 (Int.le_refl hi) (Int.le_refl hi) k1
      have b := horn_value hp'.1 hp'.2.1 (Int.le_refl lo) (Int.le_refl lo) k2
      have c := fl_mono (d := 1000000000000) (by decide) (falls hp'.1 hp'.2.1 hn1 hn2 hl (Int.le_refl hi) hs2 w1 hn2)
      have d := ce_mono (d := 1000000000000) (by decide) (falls hp'.1 hp'.2.1 (Int.le_refl lo) hl hn1 hn2 hs2 w1 hn1)
      exact ⟨Int.le_trans a.1 c, Int.le_trans d b.2⟩
    · rw [e] at h ⊢
      rw [if_pos rfl] at h ⊢
      exact best_value ho hn1 hn2 hb
  · rw [if_neg hb] at h; exact absurd h (by decide)
theorem ends_may {lo hi : Int} {p : List Int} (hp : pchk p = 0) (h : (endsR lo hi p).2.2 = 0) : may (endsR lo hi p).1 = true ∧ may (endsR lo hi p).2.1 = true := by
  have hp' := pchk_ok.1 hp
  obtain ⟨k1, k2, e2⟩ := ends_ok h
  rw [e2]
  exact ⟨(chk_ok.1 (horn_chk (Int.le_refl lo) p hp'.1 hp'.2.2 k1)).1, (chk_ok.1 (horn_chk (Int.le_refl hi) p hp'.1 hp'.2.2 k2)).2.1⟩
theorem mono_may {lo hi : Int} {p : List Int} (ho : over p lo hi = 0) (h : (monoR lo hi p).2.2 = 0) : may (monoR lo hi p).1 = true ∧ may (monoR lo hi p).2.1 = true := by
  unfold monoR at h ⊢
  by_cases hb : (bestR lo hi p).2.2 = 0
  · rw [if_pos hb] at h ⊢
    by_cases c1 : wayR (slopeR lo hi p).1 (slopeR lo hi p).2.1 = 0
    · rw [if_pos c1] at h ⊢
      have := chk_ok.1 (best_chk ho hb)
      exact ⟨this.1, this.2.1⟩
    · rw [if_neg c1] at h ⊢
      by_cases c2 : wayR (slopeR lo hi p).1 (slopeR lo hi p).2.1 < 0
      · rw [if_pos c2] at h ⊢; exact ends_may (over_ok.1 ho).1 h
      · rw [if_neg c2] at h ⊢; exact ends_may (over_ok.1 ho).1 h
  · rw [if_neg hb] at h; exact absurd h (by decide)
theorem mono_chk {lo hi : Int} {p : List Int} (ho : over p lo hi = 0) (h : (monoR lo hi p).2.2 = 0) : chk (monoR lo hi p).1 (monoR lo hi p).2.1 = 0 := by
  obtain ⟨m1, m2⟩ := mono_may ho h
  have v := mono_value ho (Int.le_refl lo) (chk_ok.1 (over_ok.1 ho).2).2.2 h
  have f := (fl_le_ce (exN lo p p.length) 1000000000000 (by decide)).1
  exact chk_ok.2 ⟨m1, m2, by omega⟩

/-- Over a span within it the corners are within. -/
theorem corners_in {al ah bl bh al' ah' bl' bh' : Int} (h1 : al ≤ al') (h2 : al' ≤ ah') (h3 : ah' ≤ ah) (h4 : bl ≤ bl') (h5 : bl' ≤ bh') (h6 : bh' ≤ bh) :
    mn4 (al * bl) (al * bh) (ah * bl) (ah * bh) ≤ mn4 (al' * bl') (al' * bh') (ah' * bl') (ah' * bh') ∧ mx4 (al' * bl') (al' * bh') (ah' * bl') (ah' * bh') ≤ mx4 (al * bl) (al * bh) (ah * bl) (ah * bh) := by
  have c1 := corners (x := al') (y := bl') h1 (by omega : al' ≤ ah) h4 (by omega : bl' ≤ bh)
  have c2 := corners (x := al') (y := bh') h1 (by omega : al' ≤ ah) (by omega : bl ≤ bh') h6
  have c3 := corners (x := ah') (y := bl') (by omega : al ≤ ah') h3 h4 (by omega : bl' ≤ bh)
  have c4 := corners (x := ah') (y := bh') (by omega : al ≤ ah') h3 (by omega : bl ≤ bh') h6
  generalize mn4 (al * bl) (al * bh) (ah * bl) (ah * bh) = m at *
  generalize mx4 (al * bl) (al * bh) (ah * bl) (ah * bh) = x at *
  unfold mn4 mx4
  omega
theorem may_between {a b c : Int} (h1 : may a = true) (h2 : may c = true) (h3 : a ≤ b) (h4 : b ≤ c) : may b = true := by
  simp only [may_iff] at *; omega
theorem fit_in {lo hi lo' hi' : Int} (h1 : lo ≤ lo') (h2 : lo' ≤ hi') (h3 : hi' ≤ hi) (h : (fit lo hi).2.2 = 0) : (fit lo' hi').2.2 = 0 ∧ (fit lo hi).1 ≤ (fit lo' hi').1 ∧ (fit lo' hi').2.1 ≤ (fit lo hi).2.1 := by
  rcases fit_cases lo hi with e | ⟨e, m1, m2⟩
  · rw [e] at h; exact absurd h (by decide)
  · have a := may_between m1 m2 h1 (by omega : lo' ≤ hi)
    have b := may_between m1 m2 (by omega : lo ≤ hi') h3
    rw [e]
    unfold fit
    rw [if_pos ⟨a, b⟩]
    exact ⟨rfl, h1, h3⟩
theorem stimes_in {al ah bl bh al' ah' bl' bh' : Int} (h1 : al ≤ al') (h2 : al' ≤ ah') (h3 : ah' ≤ ah) (h4 : bl ≤ bl') (h5 : bl' ≤ bh') (h6 : bh' ≤ bh) (h : (stimesR al ah bl bh).2.2 = 0) :
    (stimesR al' ah' bl' bh').2.2 = 0 ∧ (stimesR al ah bl bh).1 ≤ (stimesR al' ah' bl' bh').1 ∧ (stimesR al' ah' bl' bh').2.1 ≤ (stimesR al ah bl bh).2.1 := by
  have c := corners_in h1 h2 h3 h4 h5 h6
  have c2 := corners (x := al') (y := bl') (Int.le_refl _) h2 (Int.le_refl _) h5
  unfold stimesR at h ⊢
  generalize mn4 (al * bl) (al * bh) (ah * bl) (ah * bh) = m at *
  generalize mx4 (al * bl) (al * bh) (ah * bl) (ah * bh) = x at *
  generalize mn4 (al' * bl') (al' * bh') (ah' * bl') (ah' * bh') = m' at *
  generalize mx4 (al' * bl') (al' * bh') (ah' * bl') (ah' * bh') = x' at *
  refine fit_in (fl_mono (by decide) c.1) ?_ (ce_mono (by decide) c.2) h
  exact Int.le_trans (fl_mono (by decide) (by omega : m' ≤ x')) (fl_le_ce x' 1000 (by decide)).1
theorem add_in {al ah bl bh al' ah' bl' bh' : Int} (h1 : al ≤ al') (h2 : al' ≤ ah') (h3 : ah' ≤ ah) (h4 : bl ≤ bl') (h5 : bl' ≤ bh') (h6 : bh' ≤ bh) (h : (addR al ah bl bh).2.2 = 0) :
    (addR al' ah' bl' bh').2.2 = 0 ∧ (addR al ah bl bh).1 ≤ (addR al' ah' bl' bh').1 ∧ (addR al' ah' bl' bh').2.1 ≤ (addR al ah bl bh).2.1 := by
  unfold addR at h ⊢
  exact fit_in (by omega) (by omega) (by omega) h
/-- Over a span within it the range from the last factor on is within. -/
theorem horn_in {lo hi lo' hi' : Int} (h1 : lo ≤ lo') (h2 : lo' ≤ hi') (h3 : hi' ≤ hi) : ∀ (p : List Int), p ≠ [] → (∀ c ∈ p, may c = true) → (hornR lo hi p).2.2 = 0 →
    (hornR lo' hi' p).2.2 = 0 ∧ (hornR lo hi p).1 ≤ (hornR lo' hi' p).1 ∧ (hornR lo' hi' p).2.1 ≤ (hornR lo hi p).2.1
  | [], h, _, _ => absurd rfl h
  | [c], _, _, _ => ⟨rfl, Int.le_refl _, Int.le_refl _⟩
  | c :: d :: r, _, hm, h => by
    have hm' : ∀ x ∈ d :: r, may x = true := fun x hx => hm x (List.mem_cons_of_mem _ hx)
    have h' : (hstep lo hi (hornR lo hi (d :: r)) c).2.2 = 0 := h
    obtain ⟨g1, g2, g3, e⟩ := hstep_ok h'
    obtain ⟨i1, i2, i3⟩ := horn_in h1 h2 h3 (d :: r) (by simp) hm' g1
    have k := (chk_ok.1 (horn_chk h2 (d :: r) (by simp) hm' i1)).2.2
    obtain ⟨j1, j2, j3⟩ := stimes_in i2 k i3 h1 h2 h3 g2
    have k2 := (chk_ok.1 (stimes_chk k h2 j1)).2.2
    obtain ⟨l1, l2, l3⟩ := add_in j2 k2 j3 (Int.le_refl c) (Int.le_refl c) (Int.le_refl c) g3
    show (hstep lo' hi' (hornR lo' hi' (d :: r)) c).2.2 = 0 ∧ (hstep lo hi (hornR lo hi (d :: r)) c).1 ≤ (hstep lo' hi' (hornR lo' hi' (d :: r)) c).1 ∧ (hstep lo' hi' (hornR lo' hi' (d :: r)) c).2.1 ≤ (hstep lo hi (hornR lo hi (d :: r)) c).2.1
    have e' : hstep lo' hi' (hornR lo' hi' (d :: r)) c = addR (stimesR (hornR lo' hi' (d :: r)).1 (hornR lo' hi' (d :: r)).2.1 lo' hi').1 (stimesR (hornR lo' hi' (d :: r)).1 (hornR lo' hi' (d :: r)).2.1 lo' hi').2.1 c c := by
      unfold hstep; rw [if_pos i1, if_pos j1]
    rw [e, e']
    exact ⟨l1, l2, l3⟩
theorem slope_in {lo hi lo' hi' : Int} {p : List Int} (h1 : lo ≤ lo') (h2 : lo' ≤ hi') (h3 : hi' ≤ hi) (h : (slopeR lo hi p).2.2 = 0) :
    (slopeR lo' hi' p).2.2 = 0 ∧ (slopeR lo hi p).1 ≤ (slopeR lo' hi' p).1 ∧ (slopeR lo' hi' p).2.1 ≤ (slopeR lo hi p).2.1 := by
  obtain ⟨hd, e, hs⟩ := slope_ok h
  have e' : slopeR lo' hi' p = hornR lo' hi' (ders p) := by unfold slopeR; rw [if_pos hd]
  rw [e, e']
  exact horn_in h1 h2 h3 _ (ders_some p) (der_ok hd).2 hs
end Um
namespace Um
set_option linter.unusedSimpArgs false

/-- Spans behind those that are there; the fault. R: the range over a span. -/
def findG (R : Int → Int → Int × Int × Int) (least : Int) : Nat → Int → Int → List (Int × Int) → List (Int × Int) × Int
  | 0, _, _, out => (out, 0)
  | k + 1, lo, hi, out =>
    if (R lo hi).2.2 = 0 then
      (if (R lo hi).1 ≤ 0 ∧ 0 ≤ (R lo hi).2.1 then
        (if hi - lo ≤ least then (if 32 ≤ out.length then ([], 4) else (out ++ [(lo, hi)], 0))
         else if (findG R least k lo (midR lo hi) out).2 = 0 then findG R least k (midR lo hi) hi (findG R least k lo (midR lo hi) out).1 else ([], (findG R least k lo (midR lo hi) out).2))
       else (out, 0))
    else ([], (R lo hi).2.2)
theorem find_succ (R : Int → Int → Int × Int × Int) (least : Int) (k : Nat) (lo hi : Int) (out : List (Int × Int)) : findG R least (k + 1) lo hi out =
    if (R lo hi).2.2 = 0 then
      (if (R lo hi).1 ≤ 0 ∧ 0 ≤ (R lo hi).2.1 then
        (if hi - lo ≤ least then (if 32 ≤ out.length then ([], 4) else (out ++ [(lo, hi)], 0))
         else if (findG R least k lo (midR lo hi) out).2 = 0 then findG R least k (midR lo hi) hi (findG R least k lo (midR lo hi) out).1 else ([], (findG R least k lo (midR lo hi) out).2))
       else (out, 0))
    else ([], (R lo hi).2.2) := rfl
/-- Either half is no wider than half of what twice as wide is. -/
theorem half_width {lo hi : Int} {k : Nat} {least : Int} (hl : lo ≤ hi) (h1 : 1 ≤ least) (hw : hi - lo ≤ 2 ^ k) (hn : ¬ hi - lo ≤ least) :
    ∃ j, k = j + 1 ∧ midR lo hi - lo ≤ 2 ^ j ∧ hi - midR lo hi ≤ 2 ^ j ∧ lo < midR lo hi ∧ midR lo hi < hi := by
  have m := mid_has hl
  have f := fl_spec_pos (n := lo + hi) (d := 2) (by decide)
  have e : midR lo hi = fl (lo + hi) 2 := rfl
  cases k with
  | zero => simp at hw; omega
  | succ j =>
    refine ⟨j, rfl, ?_⟩
    have : (2 : Int) ^ (j + 1) = 2 * 2 ^ j := by rw [Int.pow_succ, Int.mul_comm]
    rw [this] at hw
    generalize (2 : Int) ^ j = P at *
    omega
/-- What is told: what was there, and more behind it; all between, no wider than so much, in order. -/
theorem find_order {R : Int → Int → Int × Int × Int} {least : Int} (h1 : 1 ≤ least) : ∀ (k : Nat) (lo hi : Int) (out : List (Int × Int)), lo ≤ hi → hi - lo ≤ 2 ^ k → (findG R least (k + 1) lo hi out).2 = 0 →
    ∃ l, (findG R least (k + 1) lo hi out).1 = out ++ l ∧ (∀ q ∈ l, lo ≤ q.1 ∧ q.1 ≤ q.2 ∧ q.2 ≤ hi ∧ q.2 - q.1 ≤ least) ∧ l.Pairwise (fun a b => a.2 ≤ b.1)
  | k, lo, hi, out, hl, hw, h => by
    rw [find_succ] at h ⊢
    by_cases c1 : (R lo hi).2.2 = 0
    · rw [if_pos c1] at h ⊢
      by_cases c2 : (R lo hi).1 ≤ 0 ∧ 0 ≤ (R lo hi).2.1
      · rw [if_pos c2] at h ⊢
        by_cases c3 : hi - lo ≤ least
        · rw [if_pos c3] at h ⊢
          by_cases c4 : 32 ≤ out.length
          · rw [if_pos c4] at h; exact absurd h (by decide)
          · rw [if_neg c4]
            refine ⟨[(lo, hi)], rfl, ?_, List.pairwise_singleton _ _⟩
            intro q hq
            obtain rfl := List.mem_singleton.1 hq
            exact ⟨Int.le_refl _, hl, Int.le_refl _, c3⟩
        · rw [if_neg c3] at h ⊢
          obtain ⟨j, rfl, w1, w2, w3, w4⟩ := half_width hl h1 hw c3
          by_cases c5 : (findG R least (j + 1) lo (midR lo hi) out).2 = 0
          · rw [if_pos c5] at h ⊢
            obtain ⟨l, e, a1, a2⟩ := find_order h1 j lo (midR lo hi) out (by omega) w1 c5
            rw [e] at h ⊢
            obtain ⟨l', e', b1, b2⟩ := find_order h1 j (midR lo hi) hi (out ++ l) (by omega) w2 h
            rw [e']
            refine ⟨l ++ l', by rw [List.append_assoc], ?_, ?_⟩
            · intro q hq
              rcases List.mem_append.1 hq with hq | hq
              · have := a1 q hq; omega
              · have := b1 q hq; omega
            · rw [List.pairwise_append]
              refine ⟨a2, b2, fun a ha b hb => ?_⟩
              have := a1 a ha
              have := b1 b hb
              omega
          · rw [if_neg c5] at h; exact absurd h c5
      · rw [if_neg c2]; exact ⟨[], by simp, by simp, List.Pairwise.nil⟩
    · rw [if_neg c1] at h; exact absurd h c1
/-- A number where 0 is in every range is in one of what is told. -/
theorem find_has {R : Int → Int → Int × Int × Int} {least n : Int} (h1 : 1 ≤ least) : ∀ (k : Nat) (lo hi : Int) (out : List (Int × Int)),
    (∀ l h, lo ≤ l → l ≤ n → n ≤ h → h ≤ hi → (R l h).2.2 = 0 → (R l h).1 ≤ 0 ∧ 0 ≤ (R l h).2.1) → lo ≤ n → n ≤ hi → hi - lo ≤ 2 ^ k → (findG R least (k + 1) lo hi out).2 = 0 →
    ∃ q ∈ (findG R least (k + 1) lo hi out).1, q.1 ≤ n ∧ n ≤ q.2
  | k, lo, hi, out, hz, hn1, hn2, hw, h => by
    have hl : lo ≤ hi := by omega
    rw [find_succ] at h ⊢
    by_cases c1 : (R lo hi).2.2 = 0
    · rw [if_pos c1] at h ⊢
      have c2 := hz lo hi (Int.le_refl _) hn1 hn2 (Int.le_refl _) c1
      rw [if_pos c2] at h ⊢
      by_cases c3 : hi - lo ≤ least
      · rw [if_pos c3] at h ⊢
        by_cases c4 : 32 ≤ out.length
        · rw [if_pos c4] at h; exact absurd h (by decide)
        · rw [if_neg c4]; exact ⟨(lo, hi), by simp, hn1, hn2⟩
      · rw [if_neg c3] at h ⊢
        obtain ⟨j, rfl, w1, w2, w3, w4⟩ := half_width hl h1 hw c3
        by_cases c5 : (findG R least (j + 1) lo (midR lo hi) out).2 = 0
        · rw [if_pos c5] at h ⊢
          rcases Int.le_total n (midR lo hi) with hm | hm
          · obtain ⟨q, hq, q1, q2⟩ := find_has h1 j lo (midR lo hi) out (fun l h a b c d => hz l h a b c (by omega)) hn1 hm w1 c5
            obtain ⟨l', e', _, _⟩ := find_order h1 j (midR lo hi) hi (findG R least (j + 1) lo (midR lo hi) out).1 (by omega) w2 h
            rw [e']; exact ⟨q, List.mem_append_left _ hq, q1, q2⟩
          · exact find_has h1 j (midR lo hi) hi _ (fun l h a b c d => hz l h (by omega) b c d) hm hn2 w2 h
        · rw [if_neg c5] at h; exact absurd h c5
    · rw [if_neg c1] at h; exact absurd h c1
/-- Where it is of two signs at both ends one is told. -/
theorem find_sure {R : Int → Int → Int × Int × Int} {least : Int} (s : Int → Prop) (t : Int → Prop) (h1 : 1 ≤ least) (hst : ∀ m, s m ∨ t m) : ∀ (k : Nat) (lo hi : Int) (out : List (Int × Int)),
    (∀ l h, lo ≤ l → l ≤ h → h ≤ hi → s l → t h → (R l h).2.2 = 0 → (R l h).1 ≤ 0 ∧ 0 ≤ (R l h).2.1) → s lo → t hi → lo ≤ hi → hi - lo ≤ 2 ^ k → (findG R least (k + 1) lo hi out).2 = 0 →
    (findG R least (k + 1) lo hi out).1 ≠ []
  | k, lo, hi, out, hz, s1, t1, hl, hw, h => by
    rw [find_succ] at h ⊢
    by_cases c1 : (R lo hi).2.2 = 0
    · rw [if_pos c1] at h ⊢
      have c2 := hz lo hi (Int.le_refl _) hl (Int.le_refl _) s1 t1 c1
      rw [if_pos c2] at h ⊢
      by_cases c3 : hi - lo ≤ least
      · rw [if_pos c3] at h ⊢
        by_cases c4 : 32 ≤ out.length
        · rw [if_pos c4] at h; exact absurd h (by decide)
        · rw [if_neg c4]; simp
      · rw [if_neg c3] at h ⊢
        obtain ⟨j, rfl, w1, w2, w3, w4⟩ := half_width hl h1 hw c3
        by_cases c5 : (findG R least (j + 1) lo (midR lo hi) out).2 = 0
        · rw [if_pos c5] at h ⊢
          rcases hst (midR lo hi) with hm | hm
          · exact find_sure s t h1 hst j (midR lo hi) hi _ (fun l h a b c => hz l h (by omega) b c) hm t1 (by omega) w2 h
          · have i := find_sure s t h1 hst j lo (midR lo hi) out (fun l h a b c => hz l h a b (by omega)) s1 hm (by omega) w1 c5
            obtain ⟨l', e', _, _⟩ := find_order h1 j (midR lo hi) hi (findG R least (j + 1) lo (midR lo hi) out).1 (by omega) w2 h
            rw [e']
            intro c
            exact i (List.append_eq_nil_iff.1 c).1
        · rw [if_neg c5] at h; exact absurd h c5
    · rw [if_neg c1] at h; exact absurd h c1
theorem find_length {R : Int → Int → Int × Int × Int} {least : Int} : ∀ (k : Nat) (lo hi : Int) (out : List (Int × Int)), out.length ≤ 32 → (findG R least k lo hi out).1.length ≤ 32
  | 0, _, _, _, h => h
  | k + 1, lo, hi, out, h => by
    rw [find_succ]
    split
    · split
      · split
        · split
          · simp
          · simp; omega
        · split
          · exact find_length k _ _ _ (find_length k _ _ _ h)
          · simp
      · exact h
    · simp
theorem find_none {R : Int → Int → Int × Int × Int} {least lo hi : Int} {k : Nat} {out : List (Int × Int)} (h : (R lo hi).2.2 = 0) (hz : ¬ ((R lo hi).1 ≤ 0 ∧ 0 ≤ (R lo hi).2.1)) : findG R least (k + 1) lo hi out = (out, 0) := by
  rw [find_succ, if_pos h, if_neg hz]
/-- Of a line: two at most, at an end one, beyond none; and no fault. -/
theorem find_line {R : Int → Int → Int × Int × Int} {least n L H : Int} (h1 : 1 ≤ least) (hR : ∀ l h, L ≤ l → l ≤ h → h ≤ H → R l h = (l - n, h - n, 0)) : ∀ (k : Nat) (lo hi : Int) (out : List (Int × Int)),
    L ≤ lo → lo ≤ hi → hi ≤ H → hi - lo ≤ 2 ^ k → (out.length ≤ 30 ∨ (out.length ≤ 31 ∧ (n ≤ lo ∨ hi ≤ n)) ∨ n < lo ∨ hi < n) →
    ∃ l, findG R least (k + 1) lo hi out = (out ++ l, 0) ∧ l.length ≤ 2 ∧ (n ≤ lo → lo < hi → l.length ≤ 1) ∧ (hi ≤ n → lo < hi → l.length ≤ 1) ∧ ((n < lo ∨ hi < n) → l = [])
  | k, lo, hi, out, a1, a2, a3, hw, ho => by
    have e := hR lo hi a1 a2 a3
    rw [find_succ, e]
    simp only [if_true]
    by_cases c2 : lo - n ≤ 0 ∧ 0 ≤ hi - n
    · rw [if_pos c2]
      by_cases c3 : hi - lo ≤ least
      · rw [if_pos c3, if_neg (by omega)]
        exact ⟨[(lo, hi)], rfl, by simp, fun _ _ => by simp, fun _ _ => by simp, fun h => by omega⟩
      · rw [if_neg c3]
        obtain ⟨j, rfl, w1, w2, w3, w4⟩ := half_width a2 h1 hw c3
        by_cases hm : n ≤ midR lo hi
        · obtain ⟨l, e1, b1, b2, b3, b4⟩ := find_line h1 hR j lo (midR lo hi) out a1 (by omega) (by omega) w1 (by omega)
          have hb3 := fun q => b3 q (by omega)
          obtain ⟨l', e2, d1, d2, d3, d4⟩ := find_line h1 hR j (midR lo hi) hi (out ++ l) (by omega) (by omega) a3 w2 (by
            rw [List.length_append]
            rcases Int.lt_or_le n (midR lo hi) with q | q
            · exact .inr (.inr (.inl q))
            · have := hb3 q
              exact .inr (.inl ⟨by omega, .inl hm⟩))
          rw [e1]
          simp only [if_true]
          rw [e2]
          refine ⟨l ++ l', by rw [List.append_assoc], ?_, ?_, ?_, fun h => by omega⟩
          · by_cases q : n = midR lo hi
            · have := b3 (by omega) (by omega)
              have := d2 (by omega) (by omega)
              simp; omega
            · rw [d4 (.inl (by omega))]; simp; exact b1
          · intro g1 g2
            rw [d4 (.inl (by omega))]
            simp; exact b2 g1 (by omega)
          · intro g1 g2; omega
        · obtain ⟨l, e1, b1, b2, b3, b4⟩ := find_line h1 hR j lo (midR lo hi) out a1 (by omega) (by omega) w1 (.inr (.inr (.inr (by omega))))
          have z : l = [] := b4 (.inr (by omega))
          subst z
          rw [e1]
          simp only [if_true, List.append_nil]
          obtain ⟨l', e2, d1, d2, d3, d4⟩ := find_line h1 hR j (midR lo hi) hi out (by omega) (by omega) a3 w2 (by omega)
          rw [e2]
          exact ⟨l', rfl, d1, fun g1 g2 => by omega, fun g1 g2 => d3 g1 (by omega), fun h => by omega⟩
    · rw [if_neg c2]
      exact ⟨[], by simp, by simp, fun _ _ => by simp, fun _ _ => by simp, fun _ => rfl⟩
end Um
namespace Um
set_option linter.unusedSimpArgs false

/-- The range over spans within. -/
def rangeOf (p : List Int) (l h : Int) : Int × Int × Int := monoR l h p
theorem fl_zero_le {n d : Int} (hd : 0 < d) (h : n ≤ 0) : fl n d ≤ 0 := by
  have := (fl_spec_pos (n := n) hd).1
  rcases Int.lt_or_le 0 (fl n d) with c | c
  · have := Int.mul_pos hd c; omega
  · exact c
theorem le_ce_zero {n d : Int} (hd : 0 < d) (h : 0 ≤ n) : 0 ≤ ce n d := by
  have := fl_zero_le (n := -n) hd (by omega)
  unfold ce; omega
theorem of_fl {n d : Int} (hd : 0 < d) (h : 0 ≤ fl n d) : 0 ≤ n := by
  have := (fl_spec_pos (n := n) hd).1
  have := Int.mul_nonneg (Int.le_of_lt hd) h
  omega
theorem of_ce {n d : Int} (hd : 0 < d) (h : ce n d ≤ 0) : n ≤ 0 := by
  have := of_fl (n := -n) (d := d) hd (by unfold ce at h; omega)
  omega
theorem over_in {p : List Int} {lo hi l h : Int} (ho : over p lo hi = 0) (h1 : lo ≤ l) (h2 : l ≤ h) (h3 : h ≤ hi) : over p l h = 0 := by
  obtain ⟨hp, hc⟩ := over_ok.1 ho
  obtain ⟨m1, m2, _⟩ := chk_ok.1 hc
  exact over_ok.2 ⟨hp, chk_ok.2 ⟨may_between m1 m2 h1 (by omega), may_between m1 m2 (by omega) h3, h2⟩⟩
/-- Where it is nought 0 is in every range. -/
theorem root_in {p : List Int} {lo hi n : Int} (ho : over p lo hi = 0) (he : exN n p p.length = 0) (l h : Int) (h1 : lo ≤ l) (h2 : l ≤ n) (h3 : n ≤ h) (h4 : h ≤ hi) (hR : (rangeOf p l h).2.2 = 0) :
    (rangeOf p l h).1 ≤ 0 ∧ 0 ≤ (rangeOf p l h).2.1 := by
  have v := mono_value (over_in ho h1 (by omega : l ≤ h) h4) h2 h3 hR
  rw [he] at v
  have a := fl_zero_le (n := 0) (d := 1000000000000) (by decide) (Int.le_refl _)
  have b := le_ce_zero (n := 0) (d := 1000000000000) (by decide) (Int.le_refl _)
  unfold rangeOf
  omega
theorem mono_ok {lo hi : Int} {p : List Int} (h : (monoR lo hi p).2.2 = 0) : (bestR lo hi p).2.2 = 0 ∧ (slopeR lo hi p).2.2 = 0 := by
  unfold monoR at h
  by_cases hb : (bestR lo hi p).2.2 = 0
  · exact ⟨hb, best_slope hb⟩
  · rw [if_neg hb] at h; exact absurd h (by decide)
theorem mono_up {lo hi : Int} {p : List Int} (h : (monoR lo hi p).2.2 = 0) (hs : 0 ≤ (slopeR lo hi p).1) : monoR lo hi p = endsR lo hi p := by
  obtain ⟨hb, _⟩ := mono_ok h
  unfold monoR
  have e : wayR (slopeR lo hi p).1 (slopeR lo hi p).2.1 = 1 := by unfold wayR; rw [if_pos hs]
  rw [if_pos hb, e, if_neg (by decide), if_neg (by decide)]
theorem mono_down {lo hi : Int} {p : List Int} (h : (monoR lo hi p).2.2 = 0) (hs : ¬ 0 ≤ (slopeR lo hi p).1) (hs2 : (slopeR lo hi p).2.1 ≤ 0) : monoR lo hi p = endsR hi lo p := by
  obtain ⟨hb, _⟩ := mono_ok h
  unfold monoR
  have e : wayR (slopeR lo hi p).1 (slopeR lo hi p).2.1 = -1 := by unfold wayR; rw [if_neg hs, if_pos hs2]
  rw [if_pos hb, e, if_neg (by decide), if_pos (by decide)]
/-- Is one just there? -/
abbrev sureR (lo hi : Int) (p : List Int) : Prop := ¬ ((slopeR lo hi p).1 ≤ 0 ∧ 0 ≤ (slopeR lo hi p).2.1) ∧
  ((hornR lo lo p).2.1 ≤ 0 ∧ 0 ≤ (hornR hi hi p).1 ∨ 0 ≤ (hornR lo lo p).1 ∧ (hornR hi hi p).2.1 ≤ 0)
theorem root_sure {p : List Int} {lo hi least : Int} {k : Nat} (ho : over p lo hi = 0) (h1 : 1 ≤ least) (hw : hi - lo ≤ 2 ^ k) (hR : (monoR lo hi p).2.2 = 0) (ha : (hornR lo lo p).2.2 = 0) (hb : (hornR hi hi p).2.2 = 0) (hs : sureR lo hi p)
    (h : (findG (rangeOf p) least (k + 1) lo hi []).2 = 0) : (findG (rangeOf p) least (k + 1) lo hi []).1 ≠ [] := by
  obtain ⟨hp, hc⟩ := over_ok.1 ho
  have hp' := pchk_ok.1 hp
  have hl := (chk_ok.1 hc).2.2
  obtain ⟨hbest, hsl⟩ := mono_ok hR
  obtain ⟨_, es, hs2⟩ := slope_ok hsl
  have va := horn_value hp'.1 hp'.2.1 (Int.le_refl lo) (Int.le_refl lo) ha
  have vb := horn_value hp'.1 hp'.2.1 (Int.le_refl hi) (Int.le_refl hi) hb
  have sc := (chk_ok.1 (slope_chk hl hsl)).2.2
  obtain ⟨hz, hab⟩ := hs
  have D : (0 : Int) < 1000000000000 := by decide
  by_cases hup : 0 < (slopeR lo hi p).1
  · have mono := rises hp'.1 hp'.2.1 (Int.le_refl lo) hl hl (Int.le_refl hi) hs2 (by rw [← es]; omega) hl
    have s0 : exN lo p p.length ≤ 0 ∧ 0 ≤ exN hi p p.length := by
      rcases hab with ⟨a, b⟩ | ⟨a, b⟩
      · exact ⟨of_ce D (Int.le_trans va.2 a), of_fl D (Int.le_trans b vb.1)⟩
      · have := of_fl D (Int.le_trans a va.1)
        have := of_ce D (Int.le_trans vb.2 b)
        omega
    refine find_sure (fun m => exN m p p.length ≤ 0) (fun m => 0 ≤ exN m p p.length) h1 (fun m => Int.le_total _ _) k lo hi [] ?_ s0.1 s0.2 hl hw h
    intro l h g1 g2 g3 gs gt gR
    unfold rangeOf at gR ⊢
    obtain ⟨q1, q2, q3⟩ := slope_in g1 g2 g3 hsl
    have E := mono_up gR (by omega)
    rw [E] at gR ⊢
    obtain ⟨k1, k2, e2⟩ := ends_ok gR
    rw [e2]
    have a := horn_value hp'.1 hp'.2.1 (Int.le_refl l) (Int.le_refl l) k1
    have b := horn_value hp'.1 hp'.2.1 (Int.le_refl h) (Int.le_refl h) k2
    exact ⟨Int.le_trans a.1 (fl_zero_le D gs), Int.le_trans (le_ce_zero D gt) b.2⟩
  · have hdn : (slopeR lo hi p).2.1 < 0 := by omega
    have mono := falls hp'.1 hp'.2.1 (Int.le_refl lo) hl hl (Int.le_refl hi) hs2 (by rw [← es]; omega) hl
    have s0 : 0 ≤ exN lo p p.length ∧ exN hi p p.length ≤ 0 := by
      rcases hab with ⟨a, b⟩ | ⟨a, b⟩
      · have := of_ce D (Int.le_trans va.2 a)
        have := of_fl D (Int.le_trans b vb.1)
        omega
      · exact ⟨of_fl D (Int.le_trans a va.1), of_ce D (Int.le_trans vb.2 b)⟩
    refine find_sure (fun m => 0 ≤ exN m p p.length) (fun m => exN m p p.length ≤ 0) h1 (fun m => Int.le_total _ _) k lo hi [] ?_ s0.1 s0.2 hl hw h
    intro l h g1 g2 g3 gs gt gR
    unfold rangeOf at gR ⊢
    obtain ⟨q1, q2, q3⟩ := slope_in g1 g2 g3 hsl
    have sc2 := (chk_ok.1 (slope_chk g2 q1)).2.2
    have E := mono_down gR (by omega) (by omega)
    rw [E] at gR ⊢
    obtain ⟨k1, k2, e2⟩ := ends_ok gR
    rw [e2]
    have a := horn_value hp'.1 hp'.2.1 (Int.le_refl h) (Int.le_refl h) k1
    have b := horn_value hp'.1 hp'.2.1 (Int.le_refl l) (Int.le_refl l) k2
    exact ⟨Int.le_trans a.1 (fl_zero_le D gt), Int.le_trans (le_ce_zero D gs) b.2⟩

/-! Of a line. -/
theorem stimes_thousand {lo hi : Int} (hc : chk lo hi = 0) : stimesR 1000 1000 lo hi = (lo, hi, 0) := by
  obtain ⟨m1, m2, h⟩ := chk_ok.1 hc
  unfold stimesR
  have e1 : mn4 (1000 * lo) (1000 * hi) (1000 * lo) (1000 * hi) = 1000 * lo := by unfold mn4; omega
  have e2 : mx4 (1000 * lo) (1000 * hi) (1000 * lo) (1000 * hi) = 1000 * hi := by unfold mx4; omega
  rw [e1, e2]
  have f1 : fl (1000 * lo) 1000 = lo := by rw [fl_pos (by decide)]; omega
  have f2 : ce (1000 * hi) 1000 = hi := by rw [ce_pos (by decide)]; omega
  rw [f1, f2]
  unfold fit
  rw [if_pos ⟨m1, m2⟩]
theorem add_fits {al ah bl bh : Int} (h1 : may (al + bl) = true) (h2 : may (ah + bh) = true) : addR al ah bl bh = (al + bl, ah + bh, 0) := by
  unfold addR fit; rw [if_pos ⟨h1, h2⟩]
theorem line_horn {lo hi c : Int} (hc : chk lo hi = 0) (h1 : may (lo + c) = true) (h2 : may (hi + c) = true) : hornR lo hi [c, 1000] = (lo + c, hi + c, 0) := by
  show hstep lo hi (1000, 1000, 0) c = _
  unfold hstep
  simp only [stimes_thousand hc]
  rw [if_pos trivial, if_pos trivial, add_fits h1 h2]
theorem line_slope (lo hi c : Int) : slopeR lo hi [c, 1000] = (1000, 1000, 0) := by
  have e : ders [c, 1000] = [1000 * 1] := rfl
  have d : (derR [c, 1000]).2 = 0 := by unfold derR; rw [e]; decide
  unfold slopeR
  rw [if_pos d, e]
  rfl
theorem line_pows {lo hi c : Int} (hc : chk lo hi = 0) (hm : may c = true) (h1 : may (lo + c) = true) (h2 : may (hi + c) = true) : powsN lo hi [c, 1000] 2 = (lo + c, hi + c, 0) := by
  obtain ⟨m1, m2, hl⟩ := chk_ok.1 hc
  have e1 : powsN lo hi [c, 1000] 1 = (c, c, 0) := flat hm
  rw [pows_succ, e1]
  unfold pstep
  have p1 := pow_once (lo := lo) (hi := hi) m1 m2
  show (if (0 : Int) = 0 then (if (powR lo hi 1).2.2 = 0 then (if (stimesR 1000 1000 (powR lo hi 1).1 (powR lo hi 1).2.1).2.2 = 0 then addR c c (stimesR 1000 1000 (powR lo hi 1).1 (powR lo hi 1).2.1).1 (stimesR 1000 1000 (powR lo hi 1).1 (powR lo hi 1).2.1).2.1 else (0, 0, 4)) else (0, 0, 4)) else (0, 0, 4)) = _
  rw [p1]
  simp only [stimes_thousand hc]
  rw [if_pos trivial, if_pos trivial, if_pos trivial, add_turn, add_fits h1 h2]
theorem line_cent {lo hi c : Int} (hc : chk lo hi = 0) (h1 : may (lo + c) = true) (h2 : may (hi + c) = true) : centR lo hi [c, 1000] = (lo + c, hi + c, 0) := by
  obtain ⟨m1, m2, hl⟩ := chk_ok.1 hc
  have hm := mid_has hl
  have a1 := (may_iff lo).1 m1
  have a2 := (may_iff hi).1 m2
  have hcm : chk (midR lo hi) (midR lo hi) = 0 := chk_alone (mid_may hc)
  have e1 := line_horn (c := c) hcm (may_between h1 h2 (by omega) (by omega)) (may_between h1 h2 (by omega) (by omega))
  have mm := midR lo hi
  have l1 : lessR lo hi (midR lo hi) (midR lo hi) = (lo - midR lo hi, hi - midR lo hi, 0) := by
    unfold lessR fit
    rw [if_pos]
    simp only [may_iff]
    omega
  have l2 : chk (lo - midR lo hi) (hi - midR lo hi) = 0 := by
    refine chk_ok.2 ⟨(may_iff _).2 ?_, (may_iff _).2 ?_, ?_⟩ <;> omega
  have e2 : chgR lo hi [c, 1000] (midR lo hi) = (lo - midR lo hi, hi - midR lo hi, 0) := by
    unfold chgR
    rw [line_slope, l1]
    simp only []
    rw [if_pos trivial, if_pos trivial, stimes_thousand l2]
  unfold centR
  rw [e1, e2]
  simp only []
  rw [if_pos trivial, if_pos trivial]
  have k1 : midR lo hi + c + (lo - midR lo hi) = lo + c := by omega
  have k2 : midR lo hi + c + (hi - midR lo hi) = hi + c := by omega
  rw [add_fits (by rw [k1]; exact h1) (by rw [k2]; exact h2), k1, k2]
theorem line_mono {lo hi c : Int} (hc : chk lo hi = 0) (hm : may c = true) (h1 : may (lo + c) = true) (h2 : may (hi + c) = true) : monoR lo hi [c, 1000] = (lo + c, hi + c, 0) := by
  obtain ⟨m1, m2, hl⟩ := chk_ok.1 hc
  have b : bestR lo hi [c, 1000] = (lo + c, hi + c, 0) := by
    unfold bestR
    rw [line_horn hc h1 h2, show ([c, 1000] : List Int).length = 2 from rfl, line_pows hc hm h1 h2, line_cent hc h1 h2]
    simp
  unfold monoR
  rw [b, line_slope]
  simp only []
  rw [if_pos trivial, show wayR 1000 1000 = 1 from by decide, if_neg (by decide), if_neg (by decide)]
  unfold endsR
  rw [line_horn (chk_alone m1) h1 h1, line_horn (chk_alone m2) h2 h2]
  simp
end Um
namespace Um
set_option linter.unusedSimpArgs false

/-- Where the piece ahead of the i-th ends. -/
def cutR (lo hi many : Int) (i : Nat) : Int := lo + (hi - lo) * i / many
theorem cut_zero (lo hi many : Int) : cutR lo hi many 0 = lo := by unfold cutR; simp
theorem cut_last {lo hi many : Int} {k : Nat} (hk : many = k) (h : 0 < k) : cutR lo hi many k = hi := by
  unfold cutR
  subst hk
  rw [Int.mul_ediv_cancel _ (by omega)]
  omega
theorem cut_mono {lo hi many : Int} (hm : 0 < many) (hl : lo ≤ hi) {i j : Nat} (h : i ≤ j) : cutR lo hi many i ≤ cutR lo hi many j := by
  unfold cutR
  have h1 : (hi - lo) * (i : Int) ≤ (hi - lo) * (j : Int) := Int.mul_le_mul_of_nonneg_left (by omega) (by omega)
  have h2 := Int.ediv_le_ediv hm h1
  omega
theorem cut_in {lo hi many : Int} {k : Nat} (hk : many = k) (h : 0 < k) (hl : lo ≤ hi) {i : Nat} (hi' : i ≤ k) : lo ≤ cutR lo hi many i ∧ cutR lo hi many i ≤ hi := by
  have a := cut_mono (lo := lo) (hi := hi) (many := many) (by omega) hl (Nat.zero_le i)
  have b := cut_mono (lo := lo) (hi := hi) (many := many) (by omega) hl hi'
  rw [cut_zero] at a
  rw [cut_last hk h] at b
  exact ⟨a, b⟩
/-- Of the first k pieces one has it just if it is between. -/
theorem cut_has {lo hi many n : Int} (hm : 0 < many) (hl : lo ≤ hi) : ∀ k : Nat, 0 < k → ((∃ i, i < k ∧ cutR lo hi many i ≤ n ∧ n ≤ cutR lo hi many (i + 1)) ↔ lo ≤ n ∧ n ≤ cutR lo hi many k)
  | 0, h => absurd h (by decide)
  | k + 1, _ => by
    constructor
    · rintro ⟨i, hi', h1, h2⟩
      have a := cut_mono (lo := lo) (hi := hi) (many := many) hm hl (Nat.zero_le i)
      have b := cut_mono (lo := lo) (hi := hi) (many := many) hm hl (by omega : i + 1 ≤ k + 1)
      rw [cut_zero] at a
      exact ⟨by omega, by omega⟩
    · rintro ⟨h1, h2⟩
      rcases Int.lt_or_le n (cutR lo hi many k) with h | h
      · by_cases hk : k = 0
        · subst hk; rw [cut_zero] at h; omega
        · obtain ⟨i, hi', a, b⟩ := (cut_has hm hl k (by omega)).2 ⟨h1, by omega⟩
          exact ⟨i, by omega, a, b⟩
      · exact ⟨k, by omega, h, h2⟩
/-- The range over the first k pieces. -/
def spR (lo hi many : Int) (p : List Int) : Nat → Int × Int × Int
  | 0 => (0, 0, 0)
  | k + 1 => if (spR lo hi many p k).2.2 = 0 then (if (monoR (cutR lo hi many k) (cutR lo hi many (k + 1)) p).2.2 = 0 then
      (if k = 0 then monoR (cutR lo hi many k) (cutR lo hi many (k + 1)) p else hullR (spR lo hi many p k).1 (spR lo hi many p k).2.1 (monoR (cutR lo hi many k) (cutR lo hi many (k + 1)) p).1 (monoR (cutR lo hi many k) (cutR lo hi many (k + 1)) p).2.1) else (0, 0, 4)) else (0, 0, 4)
theorem sp_succ (lo hi many : Int) (p : List Int) (k : Nat) : spR lo hi many p (k + 1) = if (spR lo hi many p k).2.2 = 0 then (if (monoR (cutR lo hi many k) (cutR lo hi many (k + 1)) p).2.2 = 0 then
      (if k = 0 then monoR (cutR lo hi many k) (cutR lo hi many (k + 1)) p else hullR (spR lo hi many p k).1 (spR lo hi many p k).2.1 (monoR (cutR lo hi many k) (cutR lo hi many (k + 1)) p).1 (monoR (cutR lo hi many k) (cutR lo hi many (k + 1)) p).2.1) else (0, 0, 4)) else (0, 0, 4) := rfl
theorem sp_fault (lo hi many : Int) (p : List Int) (k : Nat) : (spR lo hi many p k).2.2 = 0 ∨ spR lo hi many p k = (0, 0, 4) := by
  cases k with
  | zero => exact .inl rfl
  | succ k =>
    rw [sp_succ]
    split
    · split
      · split
        · exact mono_fault _ _ _
        · exact .inl rfl
      · exact .inr rfl
    · exact .inr rfl
theorem sp_ok {lo hi many : Int} {p : List Int} {k : Nat} (h : (spR lo hi many p (k + 1)).2.2 = 0) : (spR lo hi many p k).2.2 = 0 ∧ (monoR (cutR lo hi many k) (cutR lo hi many (k + 1)) p).2.2 = 0 ∧
    spR lo hi many p (k + 1) = if k = 0 then monoR (cutR lo hi many k) (cutR lo hi many (k + 1)) p else hullR (spR lo hi many p k).1 (spR lo hi many p k).2.1 (monoR (cutR lo hi many k) (cutR lo hi many (k + 1)) p).1 (monoR (cutR lo hi many k) (cutR lo hi many (k + 1)) p).2.1 := by
  rw [sp_succ] at h ⊢
  by_cases h1 : (spR lo hi many p k).2.2 = 0
  · rw [if_pos h1] at h ⊢
    by_cases h2 : (monoR (cutR lo hi many k) (cutR lo hi many (k + 1)) p).2.2 = 0
    · rw [if_pos h2]; exact ⟨h1, h2, rfl⟩
    · rw [if_neg h2] at h; exact absurd h (by decide)
  · rw [if_neg h1] at h; exact absurd h (by decide)
theorem sp_stay {lo hi many : Int} {p : List Int} {k : Nat} (h : ¬ (spR lo hi many p k).2.2 = 0) : ∀ m, spR lo hi many p (k + m) = (0, 0, 4)
  | 0 => (sp_fault lo hi many p k).resolve_left h
  | m + 1 => by
    have i := sp_stay h m
    show spR lo hi many p (k + m + 1) = _
    rw [sp_succ, i, if_neg (by decide)]
theorem piece_over {p : List Int} {lo hi many : Int} {k i : Nat} (ho : over p lo hi = 0) (hk : many = k) (h : 0 < k) (hi' : i < k) : over p (cutR lo hi many i) (cutR lo hi many (i + 1)) = 0 := by
  obtain ⟨hp, hc⟩ := over_ok.1 ho
  obtain ⟨m1, m2, hl⟩ := chk_ok.1 hc
  have a := cut_in hk h hl (by omega : i ≤ k)
  have b := cut_in hk h hl (by omega : i + 1 ≤ k)
  exact over_ok.2 ⟨hp, chk_ok.2 ⟨may_between m1 m2 a.1 a.2, may_between m1 m2 b.1 b.2, cut_mono (by omega) hl (by omega)⟩⟩
theorem sp_chk {p : List Int} {lo hi many : Int} {k : Nat} (ho : over p lo hi = 0) (hk : many = k) (h0 : 0 < k) : ∀ j : Nat, 0 < j → j ≤ k → (spR lo hi many p j).2.2 = 0 → chk (spR lo hi many p j).1 (spR lo hi many p j).2.1 = 0
  | 0, h, _, _ => absurd h (by decide)
  | j + 1, _, hj, h => by
    obtain ⟨h1, h2, e⟩ := sp_ok h
    have c := mono_chk (piece_over ho hk h0 (by omega : j < k)) h2
    rw [e]
    by_cases hz : j = 0
    · rw [if_pos hz]; exact c
    · rw [if_neg hz]
      have i := sp_chk ho hk h0 j (by omega) (by omega) h1
      obtain ⟨a1, a2, a3⟩ := chk_ok.1 c
      obtain ⟨b1, b2, b3⟩ := chk_ok.1 i
      unfold hullR
      refine chk_ok.2 ⟨?_, ?_, ?_⟩
      · simp only [may_iff] at *; omega
      · simp only [may_iff] at *; omega
      · simp only []; omega
/-- What it is is in the range over all. -/
theorem sp_value {p : List Int} {lo hi many n : Int} {k : Nat} (ho : over p lo hi = 0) (hk : many = k) (h0 : 0 < k) : ∀ j : Nat, j ≤ k → (spR lo hi many p j).2.2 = 0 → ∀ i, i < j → cutR lo hi many i ≤ n → n ≤ cutR lo hi many (i + 1) →
    (spR lo hi many p j).1 ≤ fl (exN n p p.length) 1000000000000 ∧ ce (exN n p p.length) 1000000000000 ≤ (spR lo hi many p j).2.1
  | 0, _, _, i, hi', _, _ => absurd hi' (by omega)
  | j + 1, hj, h, i, hi', g1, g2 => by
    obtain ⟨h1, h2, e⟩ := sp_ok h
    rw [e]
    by_cases hz : j = 0
    · rw [if_pos hz]
      obtain rfl : i = j := by omega
      exact mono_value (piece_over ho hk h0 (by omega)) g1 g2 h2
    · rw [if_neg hz]
      unfold hullR
      by_cases hij : i = j
      · subst hij
        have v := mono_value (piece_over ho hk h0 (by omega)) g1 g2 h2
        simp only []
        omega
      · have v := sp_value ho hk h0 j (by omega) h1 i (by omega) g1 g2
        simp only []
        omega
/-- In one piece it is itself. -/
theorem sp_one (lo hi : Int) (p : List Int) : spR lo hi 1 p 1 = monoR lo hi p := by
  have e : cutR lo hi 1 (0 + 1) = hi := cut_last (many := 1) (k := 1) rfl (by decide)
  rw [sp_succ, cut_zero, e]
  show (if (0 : Int) = 0 then _ else _) = _
  rw [if_pos rfl]
  by_cases h : (monoR lo hi p).2.2 = 0
  · rw [if_pos h, if_pos rfl]
  · rw [if_neg h, (mono_fault lo hi p).resolve_left h]
end Um
namespace Um
set_option linter.unusedSimpArgs false

/-- The first k pieces. -/
def cuts (lo hi many : Int) (k : Nat) : List (Int × Int) := (List.range k).map fun i => (cutR lo hi many i, cutR lo hi many (i + 1))
theorem cuts_length (lo hi many : Int) (k : Nat) : (cuts lo hi many k).length = k := by simp [cuts]
theorem cuts_succ (lo hi many : Int) (k : Nat) : cuts lo hi many (k + 1) = cuts lo hi many k ++ [(cutR lo hi many k, cutR lo hi many (k + 1))] := by
  unfold cuts; rw [List.range_succ, List.map_append]; rfl
theorem cuts_at {lo hi many : Int} {k i : Nat} (h : i < k) : (cuts lo hi many k)[i]?.getD (0, 0) = (cutR lo hi many i, cutR lo hi many (i + 1)) := by
  unfold cuts; simp [h]
theorem cuts_set (lo hi many : Int) (k m : Nat) : (cuts lo hi many k ++ List.replicate (m + 1) (0, 0)).set k (cutR lo hi many k, cutR lo hi many (k + 1)) = cuts lo hi many (k + 1) ++ List.replicate m (0, 0) := by
  rw [List.set_append_right _ _ (by rw [cuts_length]; exact Nat.le_refl _), cuts_length, Nat.sub_self, List.replicate_succ, List.set_cons_zero, cuts_succ, List.append_assoc]
  rfl
/-- How many there may be: the fault. -/
def manyF (many : Int) : Int := if 1 ≤ many ∧ many ≤ 32 then 0 else 1
theorem many_ok {many : Int} : manyF many = 0 ↔ 1 ≤ many ∧ many ≤ 32 := by
  unfold manyF
  by_cases h : 1 ≤ many ∧ many ≤ 32
  · rw [if_pos h]; exact ⟨fun _ => h, fun _ => rfl⟩
  · rw [if_neg h]; exact ⟨fun e => absurd e (by decide), fun e => absurd e h⟩
theorem many_no {many : Int} (h : ¬ manyF many = 0) : manyF many = 1 := by
  unfold manyF at *
  by_cases h' : 1 ≤ many ∧ many ≤ 32
  · rw [if_pos h'] at h; exact absurd rfl h
  · rw [if_neg h']
/-- What Pieces tells of anything. -/
def pieF (lo hi many : Int) : Int := if chk lo hi = 0 then manyF many else chk lo hi
theorem pie_ok {lo hi many : Int} : pieF lo hi many = 0 ↔ chk lo hi = 0 ∧ 1 ≤ many ∧ many ≤ 32 := by
  unfold pieF
  by_cases h : chk lo hi = 0
  · rw [if_pos h, many_ok]; exact ⟨fun a => ⟨h, a⟩, fun a => a.2⟩
  · rw [if_neg h]; exact ⟨fun e => absurd e h, fun e => absurd e.1 h⟩
def pieR (lo hi many : Int) : List (Int × Int) := if pieF lo hi many = 0 then cuts lo hi many many.toNat else []
/-- What Range tells of anything. -/
def splitF (p : List Int) (lo hi many : Int) : Int := if pchk p = 0 then pieF lo hi many else pchk p
theorem split_ok {p : List Int} {lo hi many : Int} : splitF p lo hi many = 0 ↔ over p lo hi = 0 ∧ 1 ≤ many ∧ many ≤ 32 := by
  unfold splitF
  by_cases h : pchk p = 0
  · rw [if_pos h, pie_ok, over_ok]; exact ⟨fun a => ⟨⟨h, a.1⟩, a.2⟩, fun a => ⟨a.1.2, a.2⟩⟩
  · rw [if_neg h, over_ok]; exact ⟨fun e => absurd e h, fun e => absurd e.1.1 h⟩
theorem split_over {p : List Int} {lo hi many : Int} : splitF p lo hi many = if over p lo hi = 0 then manyF many else over p lo hi := by
  unfold splitF pieF over
  by_cases h : pchk p = 0
  · rw [if_pos h, if_pos h]
  · rw [if_neg h, if_neg h, if_neg h]
def splitAll (p : List Int) (lo hi many : Int) : Int × Int × Int := if splitF p lo hi many = 0 then spR lo hi many p many.toNat else (0, 0, splitF p lo hi many)
/-- The way of the code: rounded to 0 what is never below 0. -/
theorem cut_code {lo hi many : Int} (hl : lo ≤ hi) (k : Nat) : lo + (((k : Int) + 1) * (hi - lo)).tdiv many = cutR lo hi many (k + 1) := by
  unfold cutR
  rw [Int.tdiv_eq_ediv_of_nonneg (Int.mul_nonneg (by omega) (by omega)), Int.mul_comm]
  rfl
theorem cut_ref {lo hi many : Int} (hl : lo ≤ hi) (k : Nat) : lo + ((hi - lo) * (k : Int)).tdiv many = cutR lo hi many k := by
  unfold cutR
  rw [Int.tdiv_eq_ediv_of_nonneg (Int.mul_nonneg (by omega) (by omega))]
theorem cut_ref1 {lo hi many : Int} (hl : lo ≤ hi) (k : Nat) : lo + ((hi - lo) * ((k : Int) + 1)).tdiv many = cutR lo hi many (k + 1) := by
  have := cut_ref (many := many) hl (k + 1)
  rw [← this]
  rfl
end Um
namespace Um
set_option linter.unusedSimpArgs false
theorem sp_first {lo hi many : Int} {p : List Int} (h : (monoR (cutR lo hi many 0) (cutR lo hi many 1) p).2.2 = 0) : spR lo hi many p 1 = monoR (cutR lo hi many 0) (cutR lo hi many 1) p := by
  show spR lo hi many p (0 + 1) = _
  have h0 : (spR lo hi many p 0).2.2 = 0 := rfl
  have h' : (monoR (cutR lo hi many 0) (cutR lo hi many (0 + 1)) p).2.2 = 0 := h
  rw [sp_succ, if_pos h0, if_pos h', if_pos rfl]
/-- Where one piece tells it, the whole does. -/
theorem sp_bad {lo hi many : Int} {p : List Int} {k n : Nat} (hk : k < n) (h : ¬ (monoR (cutR lo hi many k) (cutR lo hi many (k + 1)) p).2.2 = 0) : spR lo hi many p n = (0, 0, (monoR (cutR lo hi many k) (cutR lo hi many (k + 1)) p).2.2) := by
  have e : spR lo hi many p (k + 1) = (0, 0, 4) := by
    rw [sp_succ, if_neg h]
    split <;> rfl
  have := sp_stay (lo := lo) (hi := hi) (many := many) (p := p) (k := k + 1) (by rw [e]; decide) (n - (k + 1))
  rw [show k + 1 + (n - (k + 1)) = n by omega] at this
  rw [this, (mono_fault _ _ _).resolve_left h]
theorem sp_next {lo hi many : Int} {p : List Int} {k : Nat} (h1 : (spR lo hi many p (k + 1)).2.2 = 0) (h2 : (monoR (cutR lo hi many (k + 1)) (cutR lo hi many (k + 1 + 1)) p).2.2 = 0) :
    spR lo hi many p (k + 1 + 1) = hullR (spR lo hi many p (k + 1)).1 (spR lo hi many p (k + 1)).2.1 (monoR (cutR lo hi many (k + 1)) (cutR lo hi many (k + 1 + 1)) p).1 (monoR (cutR lo hi many (k + 1)) (cutR lo hi many (k + 1 + 1)) p).2.1 := by
  rw [sp_succ, if_pos h1, if_pos h2, if_neg (by omega)]
/-- In one piece it is itself. -/
theorem pie_one {lo hi : Int} (h : chk lo hi = 0) : pieF lo hi 1 = 0 ∧ pieR lo hi 1 = [(lo, hi)] := by
  have e : pieF lo hi 1 = 0 := pie_ok.2 ⟨h, by decide, by decide⟩
  refine ⟨e, ?_⟩
  unfold pieR
  rw [if_pos e]
  show cuts lo hi 1 (0 + 1) = _
  rw [cuts_succ, cut_zero]
  have c : cutR lo hi 1 (0 + 1) = hi := cut_last (many := 1) (k := 1) rfl (by decide)
  rw [c]
  rfl
theorem pie_not {lo hi : Int} (h : ¬ chk lo hi = 0) (many : Int) : pieF lo hi many = chk lo hi := by unfold pieF; rw [if_neg h]
theorem split_one {p : List Int} {lo hi : Int} : splitAll p lo hi 1 = monoAll p lo hi := by
  unfold splitAll monoAll
  by_cases ho : over p lo hi = 0
  · have e : splitF p lo hi 1 = 0 := split_ok.2 ⟨ho, by decide, by decide⟩
    rw [if_pos ho, if_pos e]
    exact sp_one lo hi p
  · have e : splitF p lo hi 1 = over p lo hi := by rw [split_over, if_neg ho]
    rw [e, if_neg ho, if_neg ho]
end Um
namespace Um
set_option linter.unusedSimpArgs false
theorem cuts_get {lo hi many : Int} {k i : Nat} (h : i < k) : (cuts lo hi many k)[i]? = some (cutR lo hi many i, cutR lo hi many (i + 1)) := by
  unfold cuts; simp [h]
/-- Has one of the first k pieces the number? -/
def hasR (lo hi many n : Int) : Nat → Bool
  | 0 => false
  | k + 1 => hasR lo hi many n k || (decide (cutR lo hi many k ≤ n) && decide (n ≤ cutR lo hi many (k + 1)))
theorem has_succ (lo hi many n : Int) (k : Nat) : hasR lo hi many n (k + 1) = (hasR lo hi many n k || (decide (cutR lo hi many k ≤ n) && decide (n ≤ cutR lo hi many (k + 1)))) := rfl
theorem has_iff (lo hi many n : Int) : ∀ k : Nat, hasR lo hi many n k = true ↔ ∃ i, i < k ∧ cutR lo hi many i ≤ n ∧ n ≤ cutR lo hi many (i + 1)
  | 0 => ⟨fun e => Bool.noConfusion e, fun ⟨_, h, _⟩ => absurd h (by omega)⟩
  | k + 1 => by
    rw [has_succ, Bool.or_eq_true, has_iff lo hi many n k, Bool.and_eq_true, decide_eq_true_eq, decide_eq_true_eq]
    constructor
    · rintro (⟨i, h, g⟩ | g)
      · exact ⟨i, by omega, g⟩
      · exact ⟨k, by omega, g⟩
    · rintro ⟨i, h, g⟩
      by_cases e : i = k
      · subst e; exact .inr g
      · exact .inl ⟨i, by omega, g⟩
/-- Nothing falls between pieces. -/
theorem has_all {lo hi n : Int} {m : Nat} (hl : lo ≤ hi) : hasR lo hi ((m : Int) + 1) n (m + 1) = true ↔ lo ≤ n ∧ n ≤ hi := by
  rw [has_iff, cut_has (by omega) hl (m + 1) (by omega), cut_last (k := m + 1) (by omega) (by omega)]
theorem pie_cuts {lo hi : Int} {m : Nat} (h : pieF lo hi ((m : Int) + 1) = 0) : pieR lo hi ((m : Int) + 1) = cuts lo hi ((m : Int) + 1) (m + 1) := by
  unfold pieR
  rw [if_pos h, show ((m : Int) + 1).toNat = m + 1 by omega]
theorem split_value {p : List Int} {lo hi n : Int} {m : Nat} (h : (splitAll p lo hi ((m : Int) + 1)).2.2 = 0) (h1 : lo ≤ n) (h2 : n ≤ hi) :
    (splitAll p lo hi ((m : Int) + 1)).1 ≤ fl (exN n p p.length) 1000000000000 ∧ ce (exN n p p.length) 1000000000000 ≤ (splitAll p lo hi ((m : Int) + 1)).2.1 := by
  unfold splitAll at *
  by_cases hf : splitF p lo hi ((m : Int) + 1) = 0
  · rw [if_pos hf] at h ⊢
    rw [show ((m : Int) + 1).toNat = m + 1 by omega] at h ⊢
    have ho := (split_ok.1 hf).1
    have hl := (chk_ok.1 (over_ok.1 ho).2).2.2
    obtain ⟨i, hi', a, b⟩ := (has_iff lo hi ((m : Int) + 1) n (m + 1)).1 ((has_all hl).2 ⟨h1, h2⟩)
    exact sp_value (k := m + 1) ho (by omega) (by omega) (m + 1) (Nat.le_refl _) h i hi' a b
  · rw [if_neg hf] at h; exact absurd h hf
end Um
namespace Um
set_option linter.unusedSimpArgs false

theorem le_of_mul {a b c : Int} (hc : 0 < c) (h : a * c ≤ b * c) : a ≤ b := by
  rcases Int.lt_or_le b a with k | k
  · have := Int.mul_lt_mul_of_pos_right k hc
    omega
  · exact k
/-- What is between two by so many parts, by what is between two by so many parts: if that is a number it is in what By tells. -/
theorem sby_parts {al ah bl bh V W K D1 D2 : Int} (hD1 : 0 < D1) (hD2 : 0 < D2) (h1 : al * D1 ≤ V) (h2 : V ≤ ah * D1) (h3 : bl * D2 ≤ W) (h4 : W ≤ bh * D2)
    (hb : bl ≤ bh) (he : V * (1000 * D2) = K * W * D1) (h : (sbyR al ah bl bh).2.2 = 0) : (sbyR al ah bl bh).1 ≤ K ∧ K ≤ (sbyR al ah bl bh).2.1 := by
  unfold sbyR at h ⊢
  by_cases hz : bl ≤ 0 ∧ 0 ≤ bh
  · rw [if_pos hz] at h; exact absurd h (by decide)
  rw [if_neg hz] at h ⊢
  obtain ⟨q0, q1, q2, q3⟩ := mn4_le (fl (al * 1000) bl) (fl (al * 1000) bh) (fl (ah * 1000) bl) (fl (ah * 1000) bh)
  obtain ⟨p0, p1, p2, p3⟩ := le_mx4 (ce (al * 1000) bl) (ce (al * 1000) bh) (ce (ah * 1000) bl) (ce (ah * 1000) bh)
  generalize mn4 (fl (al * 1000) bl) (fl (al * 1000) bh) (fl (ah * 1000) bl) (fl (ah * 1000) bh) = q at *
  generalize mx4 (ce (al * 1000) bl) (ce (al * 1000) bh) (ce (ah * 1000) bl) (ce (ah * 1000) bh) = p at *
  rcases fit_cases q p with e | ⟨e, m1, m2⟩
  · rw [e] at h; exact absurd h (by decide)
  rw [e]
  show q ≤ K ∧ K ≤ p
  have hT : (0 : Int) ≤ 1000 * D2 := by omega
  have v1 := Int.mul_le_mul_of_nonneg_right h1 hT
  have v2 := Int.mul_le_mul_of_nonneg_right h2 hT
  have s : ∀ x y : Int, x * y ≤ al * 1000 → x * (y * D2) ≤ al * 1000 * D2 := fun x y k => by
    rw [← Int.mul_assoc]; exact Int.mul_le_mul_of_nonneg_right k (Int.le_of_lt hD2)
  have sl : ∀ z x y : Int, x * y ≤ z * 1000 → x * (y * D2) ≤ z * 1000 * D2 := fun z x y k => by
    rw [← Int.mul_assoc]; exact Int.mul_le_mul_of_nonneg_right k (Int.le_of_lt hD2)
  have su : ∀ z x y : Int, z * 1000 ≤ x * y → z * 1000 * D2 ≤ x * (y * D2) := fun z x y k => by
    rw [← Int.mul_assoc]; exact Int.mul_le_mul_of_nonneg_right k (Int.le_of_lt hD2)
  have w : ∀ z : Int, z * D1 * (1000 * D2) = z * 1000 * D2 * D1 := fun z => by grind
  rw [w, he] at v1 v2
  have v1' := le_of_mul hD1 v1
  have v2' := le_of_mul hD1 v2
  rcases (by omega : 0 < bl ∨ bh < 0) with hp | hn
  · have hW : 0 < W := by
      have := Int.mul_pos hp hD2
      omega
    have g1 := lin_le h3 h4 (sl al q bl (low_pos hp q0)) (sl al q bh (low_pos (show 0 < bh by omega) q1))
    have g2 := le_lin h3 h4 (su ah p bl (high_pos hp p2)) (su ah p bh (high_pos (show 0 < bh by omega) p3))
    exact ⟨le_of_mul hW (by omega), le_of_mul hW (by omega)⟩
  · have hW : 0 < -W := by
      have := Int.mul_pos (show 0 < -bh by omega) hD2
      rw [Int.neg_mul] at this
      omega
    have g1 := le_lin h3 h4 (su ah q bl (low_neg (show bl < 0 by omega) q2)) (su ah q bh (low_neg hn q3))
    have g2 := lin_le h3 h4 (sl al p bl (high_neg (show bl < 0 by omega) p0)) (sl al p bh (high_neg hn p1))
    refine ⟨le_of_mul hW ?_, le_of_mul hW ?_⟩
    · rw [Int.mul_neg, Int.mul_neg]; omega
    · rw [Int.mul_neg, Int.mul_neg]; omega
/-- Where it is nought stays in what a step tells. -/
theorem newton_has {lo hi n m al ah : Int} {p : List Int} (h0 : p ≠ []) (h5 : p.length ≤ 5) (hn1 : lo ≤ n) (hn2 : n ≤ hi) (hm1 : lo ≤ m) (hm2 : m ≤ hi)
    (h : (hornR lo hi (ders p)).2.2 = 0) (hd : (hornR lo hi (ders p)).1 ≤ (hornR lo hi (ders p)).2.1) (ha : al * 1000000000000 ≤ exN m p p.length) (hb : exN m p p.length ≤ ah * 1000000000000)
    (hz : exN n p p.length = 0) (hq : (sbyR al ah (hornR lo hi (ders p)).1 (hornR lo hi (ders p)).2.1).2.2 = 0) :
    (sbyR al ah (hornR lo hi (ders p)).1 (hornR lo hi (ders p)).2.1).1 ≤ m - n ∧ m - n ≤ (sbyR al ah (hornR lo hi (ders p)).1 (hornR lo hi (ders p)).2.1).2.1 := by
  obtain ⟨W, e, w1, w2⟩ := slope_has h0 h5 hm1 hm2 hn1 hn2 h
  rw [hz] at e
  refine sby_parts (D1 := 1000000000000) (D2 := 48000000000) (by decide) (by decide) ha hb w1 w2 hd ?_ hq
  generalize exN m p p.length = E at *
  have e2 : 48 * E = W * (m - n) := by rw [← e]; omega
  have e3 : (m - n) * W = 48 * E := by rw [e2, Int.mul_comm]
  rw [e3]; omega
end Um
namespace Um
set_option linter.unusedSimpArgs false

def mayB (p : List Int) (lo hi : Int) : Bool := decide ((monoAll p lo hi).2.2 = 0) && (decide ((monoAll p lo hi).1 ≤ 0) && decide (0 ≤ (monoAll p lo hi).2.1))
def findR (p : List Int) (lo hi least : Int) : List (Int × Int) × Int := findG (rangeOf p) least 32 lo hi []
def findF (p : List Int) (lo hi least : Int) : Int := if over p lo hi = 0 then (if 1 ≤ least ∧ least ≤ 1000000000 then 0 else 1) else over p lo hi
def findAll (p : List Int) (lo hi least : Int) : List (Int × Int) × Int := if findF p lo hi least = 0 then findR p lo hi least else ([], findF p lo hi least)
def sureB (p : List Int) (lo hi : Int) : Bool := decide ((monoAll p lo hi).2.2 = 0) && decide (sureR lo hi p)

theorem all_over {p : List Int} {lo hi : Int} (h : (monoAll p lo hi).2.2 = 0) : over p lo hi = 0 ∧ monoAll p lo hi = monoR lo hi p ∧ (monoR lo hi p).2.2 = 0 := by
  unfold monoAll at h ⊢
  by_cases ho : over p lo hi = 0
  · rw [if_pos ho] at h ⊢; exact ⟨ho, rfl, h⟩
  · rw [if_neg ho] at h; exact absurd h ho
theorem find_ok {p : List Int} {lo hi least : Int} : findF p lo hi least = 0 ↔ over p lo hi = 0 ∧ 1 ≤ least ∧ least ≤ 1000000000 := by
  unfold findF
  by_cases ho : over p lo hi = 0
  · rw [if_pos ho]
    by_cases hl : 1 ≤ least ∧ least ≤ 1000000000
    · rw [if_pos hl]; exact ⟨fun _ => ⟨ho, hl⟩, fun _ => rfl⟩
    · rw [if_neg hl]; exact ⟨fun h => absurd h (by decide), fun h => absurd h.2 hl⟩
  · rw [if_neg ho]; exact ⟨fun h => absurd h ho, fun h => absurd h.1 ho⟩
theorem find_over {p : List Int} {lo hi least : Int} (h : ¬ over p lo hi = 0) : findAll p lo hi least = ([], over p lo hi) := by
  have e : findF p lo hi least = over p lo hi := by unfold findF; rw [if_neg h]
  unfold findAll
  rw [e, if_neg h]
theorem find_least {p : List Int} {lo hi least : Int} (h : over p lo hi = 0) (hl : ¬ (1 ≤ least ∧ least ≤ 1000000000)) : findAll p lo hi least = ([], 1) := by
  have e : findF p lo hi least = 1 := by unfold findF; rw [if_pos h, if_neg hl]
  unfold findAll
  rw [e, if_neg (by decide)]
theorem find_good {p : List Int} {lo hi least : Int} (h : over p lo hi = 0) (h1 : 1 ≤ least) (h2 : least ≤ 1000000000) : findAll p lo hi least = findR p lo hi least := by
  unfold findAll
  rw [if_pos (find_ok.2 ⟨h, h1, h2⟩)]
theorem find_some {p : List Int} {lo hi least : Int} (h : (findAll p lo hi least).2 = 0) : over p lo hi = 0 ∧ 1 ≤ least ∧ least ≤ 1000000000 ∧ findAll p lo hi least = findR p lo hi least ∧ (findR p lo hi least).2 = 0 := by
  by_cases hf : findF p lo hi least = 0
  · obtain ⟨a, b, c⟩ := find_ok.1 hf
    have e := find_good a b c
    rw [e] at h
    exact ⟨a, b, c, e, h⟩
  · unfold findAll at h; rw [if_neg hf] at h; exact absurd h hf
/-- Wide as it may be it is no wider than so many times two. -/
theorem over_width {p : List Int} {lo hi : Int} (h : over p lo hi = 0) : lo ≤ hi ∧ hi - lo ≤ 2 ^ 31 := by
  obtain ⟨m1, m2, hl⟩ := chk_ok.1 (over_ok.1 h).2
  have a := (may_iff lo).1 m1
  have b := (may_iff hi).1 m2
  refine ⟨hl, ?_⟩
  have : (2 : Int) ^ 31 = 2147483648 := by decide
  omega
theorem find_most (p : List Int) (lo hi least : Int) : (findAll p lo hi least).1.length ≤ 32 := by
  unfold findAll
  split
  · exact find_length 32 lo hi [] (by simp)
  · simp
/-- What is told lies between, is small, in order. -/
theorem find_row {p : List Int} {lo hi least : Int} (h : (findAll p lo hi least).2 = 0) : (∀ (i : Nat) (s : Int × Int), (findAll p lo hi least).1[i]? = some s → lo ≤ s.1 ∧ s.1 ≤ s.2 ∧ s.2 ≤ hi ∧ s.2 - s.1 ≤ least) ∧
    ∀ (i : Nat) (s t : Int × Int), (findAll p lo hi least).1[i]? = some s → (findAll p lo hi least).1[i + 1]? = some t → s.2 ≤ t.1 := by
  obtain ⟨ho, h1, h2, e, h0⟩ := find_some h
  obtain ⟨hl, hw⟩ := over_width ho
  rw [e]
  obtain ⟨l, el, a, b⟩ := find_order h1 31 lo hi [] hl hw h0
  have el' : (findR p lo hi least).1 = l := by unfold findR; simpa using el
  rw [el']
  refine ⟨fun i s hs => a s (List.mem_of_getElem? hs), fun i s t hs ht => ?_⟩
  obtain ⟨i1, rfl⟩ := List.getElem?_eq_some_iff.1 hs
  obtain ⟨i2, rfl⟩ := List.getElem?_eq_some_iff.1 ht
  exact List.pairwise_iff_getElem.1 b i (i + 1) i1 i2 (by omega)
/-- Is a number in one of the first k? -/
def inL (l : List (Int × Int)) (n : Int) : Nat → Bool
  | 0 => false
  | k + 1 => inL l n k || (decide ((l[k]?.getD (0, 0)).1 ≤ n) && decide (n ≤ (l[k]?.getD (0, 0)).2))
theorem inL_succ (l : List (Int × Int)) (n : Int) (k : Nat) : inL l n (k + 1) = (inL l n k || (decide ((l[k]?.getD (0, 0)).1 ≤ n) && decide (n ≤ (l[k]?.getD (0, 0)).2))) := rfl
theorem inL_of {l : List (Int × Int)} {n : Int} : ∀ {k i : Nat} {s : Int × Int}, i < k → l[i]? = some s → s.1 ≤ n → n ≤ s.2 → inL l n k = true
  | 0, _, _, h, _, _, _ => absurd h (Nat.not_lt_zero _)
  | k + 1, i, s, h, hs, h1, h2 => by
    rw [inL_succ]
    rcases (by omega : i < k ∨ i = k) with q | rfl
    · rw [inL_of q hs h1 h2]; rfl
    · rw [hs]; simp [h1, h2]
/-- Where it is nought it may be, and is in one of what is told. -/
theorem nought_may {p : List Int} {lo hi n : Int} (h : (monoAll p lo hi).2.2 = 0) (h1 : lo ≤ n) (h2 : n ≤ hi) (he : exN n p p.length = 0) : mayB p lo hi = true := by
  obtain ⟨ho, e, h0⟩ := all_over h
  have := root_in ho he lo hi (Int.le_refl _) h1 h2 (Int.le_refl _) h0
  unfold rangeOf at this
  unfold mayB
  rw [e]
  simp [h0, this.1, this.2]
theorem nought_in {p : List Int} {lo hi least n : Int} (h : (findAll p lo hi least).2 = 0) (h1 : lo ≤ n) (h2 : n ≤ hi) (he : exN n p p.length = 0) : inL (findAll p lo hi least).1 n (findAll p lo hi least).1.length = true := by
  obtain ⟨ho, l1, l2, e, h0⟩ := find_some h
  obtain ⟨hl, hw⟩ := over_width ho
  rw [e]
  obtain ⟨q, hq, q1, q2⟩ := find_has l1 31 lo hi [] (root_in ho he) h1 h2 hw h0
  obtain ⟨i, hi', rfl⟩ := List.getElem_of_mem hq
  exact inL_of hi' (List.getElem?_eq_getElem hi') q1 q2
/-- Where one is sure to be one is told; where it may not be none is. -/
theorem sure_some {p : List Int} {lo hi least : Int} (h : (findAll p lo hi least).2 = 0) (hs : sureB p lo hi = true) : 0 < (findAll p lo hi least).1.length := by
  obtain ⟨ho, l1, l2, e, h0⟩ := find_some h
  obtain ⟨hl, hw⟩ := over_width ho
  unfold sureB at hs
  simp only [Bool.and_eq_true, decide_eq_true_eq] at hs
  obtain ⟨hm, hs⟩ := hs
  obtain ⟨_, e2, hm⟩ := all_over hm
  obtain ⟨hp, hc⟩ := over_ok.1 ho
  have hp' := pchk_ok.1 hp
  have hh := (best_ok (mono_ok hm).1).1
  have a := (horn_in (Int.le_refl lo) (Int.le_refl lo) hl p hp'.1 hp'.2.2 hh).1
  have b := (horn_in hl (Int.le_refl hi) (Int.le_refl hi) p hp'.1 hp'.2.2 hh).1
  have := root_sure ho l1 hw hm a b hs h0
  rw [e]
  exact List.length_pos_iff.2 this
theorem may_none {p : List Int} {lo hi least : Int} (hm : (monoAll p lo hi).2.2 = 0) (h : (findAll p lo hi least).2 = 0) (hn : mayB p lo hi = false) : (findAll p lo hi least).1.length = 0 := by
  obtain ⟨ho, l1, l2, e, h0⟩ := find_some h
  obtain ⟨_, e2, hm'⟩ := all_over hm
  have hz : ¬ ((rangeOf p lo hi).1 ≤ 0 ∧ 0 ≤ (rangeOf p lo hi).2.1) := by
    intro c
    unfold mayB at hn
    rw [e2] at hn
    unfold rangeOf at c
    simp [hm', c.1, c.2] at hn
  rw [e]
  unfold findR
  rw [find_none hm' hz]; rfl
/-- Of the line that is nought at n. -/
theorem line_over {n lo hi : Int} (h1 : -100000 ≤ n) (h2 : n ≤ 100000) (hc : chk lo hi = 0) : over [-n, 1000] lo hi = 0 := by
  refine over_ok.2 ⟨pchk_ok.2 ⟨by simp, by simp, ?_⟩, hc⟩
  intro c hm
  rcases List.mem_cons.1 hm with rfl | hm
  · exact (may_iff _).2 (by omega)
  · obtain rfl := List.mem_singleton.1 hm
    decide
theorem line_chk {lo hi : Int} (h1 : -200000 ≤ lo) (h2 : lo ≤ hi) (h3 : hi ≤ 200001) : chk lo hi = 0 :=
  chk_ok.2 ⟨(may_iff _).2 (by omega), (may_iff _).2 (by omega), h2⟩
theorem line_range {n lo hi : Int} (h1 : -100000 ≤ n) (h2 : n ≤ 100000) (g1 : -200000 ≤ lo) (g2 : lo ≤ hi) (g3 : hi ≤ 200001) : rangeOf [-n, 1000] lo hi = (lo - n, hi - n, 0) := by
  unfold rangeOf
  rw [line_mono (line_chk g1 g2 g3) ((may_iff _).2 (by omega)) ((may_iff _).2 (by omega)) ((may_iff _).2 (by omega))]
  rfl
theorem line_find {n least : Int} (h1 : -100000 ≤ n) (h2 : n ≤ 100000) (l1 : 1 ≤ least) (l2 : least ≤ 1000) :
    (findAll [-n, 1000] (-200000) 200001 least).2 = 0 ∧ (findAll [-n, 1000] (-200000) 200001 least).1.length ≤ 2 := by
  have ho := line_over h1 h2 (line_chk (Int.le_refl _) (by decide) (Int.le_refl _))
  rw [find_good ho l1 (by omega)]
  obtain ⟨l, e, a, _⟩ := find_line l1 (fun l h a b c => line_range h1 h2 a b c) 31 (-200000) 200001 [] (by decide) (by decide) (by decide) (by decide) (.inl (by simp))
  unfold findR
  rw [e]
  exact ⟨rfl, by simpa using a⟩
theorem line_nought (n : Int) : exN n [-n, 1000] ([-n, 1000] : List Int).length = 0 := by
  show exN n [-n, 1000] 2 = 0
  simp only [exN, Int.pow_zero, Int.pow_succ, List.getD_cons_zero, List.getD_cons_succ]
  omega
theorem line_sure {n : Int} (h1 : -100000 ≤ n) (h2 : n ≤ 100000) : (monoAll [-n, 1000] (-200000) 200001).2.2 = 0 ∧ sureB [-n, 1000] (-200000) 200001 = true := by
  have ho := line_over h1 h2 (line_chk (Int.le_refl _) (by decide) (Int.le_refl _))
  have e : monoAll [-n, 1000] (-200000) 200001 = (-200000 - n, 200001 - n, 0) := by
    unfold monoAll
    rw [if_pos ho]
    exact line_range h1 h2 (Int.le_refl _) (by decide) (Int.le_refl _)
  refine ⟨by rw [e], ?_⟩
  unfold sureB
  rw [e]
  simp only [Bool.and_eq_true, decide_eq_true_eq]
  refine ⟨trivial, ?_⟩
  unfold sureR
  rw [line_slope, line_horn (chk_alone (by decide)) ((may_iff _).2 (by omega)) ((may_iff _).2 (by omega)), line_horn (chk_alone (by decide)) ((may_iff _).2 (by omega)) ((may_iff _).2 (by omega))]
  simp only []
  omega
/-- Behind the range neither the slope nor an end fails. -/
theorem sure_parts {p : List Int} {lo hi : Int} (h : (monoAll p lo hi).2.2 = 0) : slopeAll p lo hi = slopeR lo hi p ∧ (slopeR lo hi p).2.2 = 0 ∧ hornAll p lo lo = hornR lo lo p ∧ (hornR lo lo p).2.2 = 0 ∧ hornAll p hi hi = hornR hi hi p ∧ (hornR hi hi p).2.2 = 0 := by
  obtain ⟨ho, _, h0⟩ := all_over h
  obtain ⟨hp, hc⟩ := over_ok.1 ho
  obtain ⟨m1, m2, hl⟩ := chk_ok.1 hc
  have hp' := pchk_ok.1 hp
  obtain ⟨hb, hs⟩ := mono_ok h0
  have hh := (best_ok hb).1
  refine ⟨?_, hs, ?_, (horn_in (Int.le_refl lo) (Int.le_refl lo) hl p hp'.1 hp'.2.2 hh).1, ?_, (horn_in hl (Int.le_refl hi) (Int.le_refl hi) p hp'.1 hp'.2.2 hh).1⟩
  · unfold slopeAll; rw [if_pos ho]
  · unfold hornAll; rw [if_pos (over_ok.2 ⟨hp, chk_alone m1⟩)]
  · unfold hornAll; rw [if_pos (over_ok.2 ⟨hp, chk_alone m2⟩)]
theorem sure_is {p : List Int} {lo hi : Int} (h : (monoAll p lo hi).2.2 = 0) : sureB p lo hi = (!(decide ((slopeR lo hi p).1 ≤ 0) && decide (0 ≤ (slopeR lo hi p).2.1)) &&
    ((decide (0 ≤ (hornR lo lo p).1) && decide ((hornR hi hi p).2.1 ≤ 0)) || (decide (0 ≤ (hornR hi hi p).1) && decide ((hornR lo lo p).2.1 ≤ 0)))) := by
  unfold sureB sureR
  rw [h]
  by_cases a1 : (slopeR lo hi p).1 ≤ 0 <;> by_cases a2 : 0 ≤ (slopeR lo hi p).2.1 <;> by_cases a3 : 0 ≤ (hornR lo lo p).1 <;> by_cases a4 : (hornR hi hi p).2.1 ≤ 0 <;> by_cases a5 : 0 ≤ (hornR hi hi p).1 <;> by_cases a6 : (hornR lo lo p).2.1 ≤ 0 <;> simp [a1, a2, a3, a4, a5, a6]
theorem find_fact : findAll [-2000, 1000] 0 8000 1000 = ([(1000, 2000), (2000, 3000)], 0) := by decide +kernel
end Um
namespace Um
set_option linter.unusedSimpArgs false

/-- A step nearer of what is right; the fault. -/
def newtR (lo hi : Int) (p : List Int) : Int × Int × Int :=
  if (hornR (midR lo hi) (midR lo hi) p).2.2 = 0 then (if (slopeR lo hi p).2.2 = 0 then
    (if (sbyR (hornR (midR lo hi) (midR lo hi) p).1 (hornR (midR lo hi) (midR lo hi) p).2.1 (slopeR lo hi p).1 (slopeR lo hi p).2.1).2.2 = 0 then
      (if (lessR (midR lo hi) (midR lo hi) (sbyR (hornR (midR lo hi) (midR lo hi) p).1 (hornR (midR lo hi) (midR lo hi) p).2.1 (slopeR lo hi p).1 (slopeR lo hi p).2.1).1 (sbyR (hornR (midR lo hi) (midR lo hi) p).1 (hornR (midR lo hi) (midR lo hi) p).2.1 (slopeR lo hi p).1 (slopeR lo hi p).2.1).2.1).2.2 = 0 then
        meetR (lessR (midR lo hi) (midR lo hi) (sbyR (hornR (midR lo hi) (midR lo hi) p).1 (hornR (midR lo hi) (midR lo hi) p).2.1 (slopeR lo hi p).1 (slopeR lo hi p).2.1).1 (sbyR (hornR (midR lo hi) (midR lo hi) p).1 (hornR (midR lo hi) (midR lo hi) p).2.1 (slopeR lo hi p).1 (slopeR lo hi p).2.1).2.1).1 (lessR (midR lo hi) (midR lo hi) (sbyR (hornR (midR lo hi) (midR lo hi) p).1 (hornR (midR lo hi) (midR lo hi) p).2.1 (slopeR lo hi p).1 (slopeR lo hi p).2.1).1 (sbyR (hornR (midR lo hi) (midR lo hi) p).1 (hornR (midR lo hi) (midR lo hi) p).2.1 (slopeR lo hi p).1 (slopeR lo hi p).2.1).2.1).2.1 lo hi
       else (0, 0, 4))
     else (0, 0, (sbyR (hornR (midR lo hi) (midR lo hi) p).1 (hornR (midR lo hi) (midR lo hi) p).2.1 (slopeR lo hi p).1 (slopeR lo hi p).2.1).2.2))
   else (0, 0, 4)) else (0, 0, 4)
def newtAll (p : List Int) (lo hi : Int) : Int × Int × Int := if over p lo hi = 0 then newtR lo hi p else (0, 0, over p lo hi)
/-- The step, its parts named. -/
theorem newt_is {lo hi : Int} {p : List Int} {A D Q S : Int × Int × Int} (eA : hornR (midR lo hi) (midR lo hi) p = A) (eD : slopeR lo hi p = D) (eQ : sbyR A.1 A.2.1 D.1 D.2.1 = Q) (eS : lessR (midR lo hi) (midR lo hi) Q.1 Q.2.1 = S) :
    newtR lo hi p = if A.2.2 = 0 then (if D.2.2 = 0 then (if Q.2.2 = 0 then (if S.2.2 = 0 then meetR S.1 S.2.1 lo hi else (0, 0, 4)) else (0, 0, Q.2.2)) else (0, 0, 4)) else (0, 0, 4) := by
  subst eA; subst eD; subst eQ; subst eS; rfl
theorem sby_fault (al ah bl bh : Int) : (sbyR al ah bl bh).2.2 = 0 ∨ sbyR al ah bl bh = (0, 0, 4) ∨ sbyR al ah bl bh = (0, 0, 8) := by
  unfold sbyR
  split
  · exact .inr (.inr rfl)
  · rcases fit_cases (mn4 (fl (al * 1000) bl) (fl (al * 1000) bh) (fl (ah * 1000) bl) (fl (ah * 1000) bh)) (mx4 (ce (al * 1000) bl) (ce (al * 1000) bh) (ce (ah * 1000) bl) (ce (ah * 1000) bh)) with e | ⟨e, -, -⟩
    · exact .inr (.inl e)
    · left; rw [e]
theorem meet_fault (al ah bl bh : Int) : (meetR al ah bl bh).2.2 = 0 ∨ meetR al ah bl bh = (0, 0, 5) := by
  by_cases h : max al bl ≤ min ah bh
  · left; rw [meet_yes h]
  · right; exact meet_no h
theorem meet_in {al ah bl bh : Int} (h : (meetR al ah bl bh).2.2 = 0) : bl ≤ (meetR al ah bl bh).1 ∧ (meetR al ah bl bh).1 ≤ (meetR al ah bl bh).2.1 ∧ (meetR al ah bl bh).2.1 ≤ bh ∧ al ≤ (meetR al ah bl bh).1 ∧ (meetR al ah bl bh).2.1 ≤ ah := by
  by_cases hm : max al bl ≤ min ah bh
  · rw [meet_yes hm]
    show bl ≤ max al bl ∧ max al bl ≤ min ah bh ∧ min ah bh ≤ bh ∧ al ≤ max al bl ∧ min ah bh ≤ ah
    omega
  · rw [meet_no hm] at h; exact absurd h (by decide)
/-- What a step tells is nought, or has both ends 0. -/
theorem newt_fault (lo hi : Int) (p : List Int) : (newtR lo hi p).2.2 = 0 ∨ ((newtR lo hi p).1 = 0 ∧ (newtR lo hi p).2.1 = 0) := by
  obtain ⟨A, eA⟩ : ∃ A, hornR (midR lo hi) (midR lo hi) p = A := ⟨_, rfl⟩
  obtain ⟨D, eD⟩ : ∃ D, slopeR lo hi p = D := ⟨_, rfl⟩
  obtain ⟨Q, eQ⟩ : ∃ Q, sbyR A.1 A.2.1 D.1 D.2.1 = Q := ⟨_, rfl⟩
  obtain ⟨S, eS⟩ : ∃ S, lessR (midR lo hi) (midR lo hi) Q.1 Q.2.1 = S := ⟨_, rfl⟩
  rw [newt_is eA eD eQ eS]
  split
  · split
    · split
      · split
        · rcases meet_fault S.1 S.2.1 lo hi with e | e
          · exact .inl e
          · right; rw [e]; exact ⟨rfl, rfl⟩
        · exact .inr ⟨rfl, rfl⟩
      · exact .inr ⟨rfl, rfl⟩
    · exact .inr ⟨rfl, rfl⟩
  · exact .inr ⟨rfl, rfl⟩
/-- What is told behind a step that tells something. -/
theorem newt_ok {lo hi : Int} {p : List Int} (h : (newtR lo hi p).2.2 = 0) : (hornR (midR lo hi) (midR lo hi) p).2.2 = 0 ∧ (slopeR lo hi p).2.2 = 0 ∧
    ∃ Q S : Int × Int × Int, sbyR (hornR (midR lo hi) (midR lo hi) p).1 (hornR (midR lo hi) (midR lo hi) p).2.1 (slopeR lo hi p).1 (slopeR lo hi p).2.1 = Q ∧ Q.2.2 = 0 ∧ lessR (midR lo hi) (midR lo hi) Q.1 Q.2.1 = S ∧ S.2.2 = 0 ∧ newtR lo hi p = meetR S.1 S.2.1 lo hi := by
  obtain ⟨A, eA⟩ : ∃ A, hornR (midR lo hi) (midR lo hi) p = A := ⟨_, rfl⟩
  obtain ⟨D, eD⟩ : ∃ D, slopeR lo hi p = D := ⟨_, rfl⟩
  obtain ⟨Q, eQ⟩ : ∃ Q, sbyR A.1 A.2.1 D.1 D.2.1 = Q := ⟨_, rfl⟩
  obtain ⟨S, eS⟩ : ∃ S, lessR (midR lo hi) (midR lo hi) Q.1 Q.2.1 = S := ⟨_, rfl⟩
  have e := newt_is eA eD eQ eS
  rw [e] at h
  rw [eA, eD]
  by_cases a : A.2.2 = 0
  · rw [if_pos a] at h e
    by_cases d : D.2.2 = 0
    · rw [if_pos d] at h e
      by_cases q : Q.2.2 = 0
      · rw [if_pos q] at h e
        by_cases s : S.2.2 = 0
        · rw [if_pos s] at e
          exact ⟨a, d, Q, S, eQ, q, eS, s, e⟩
        · rw [if_neg s] at h; exact absurd h (by decide)
      · rw [if_neg q] at h; exact absurd h q
    · rw [if_neg d] at h; exact absurd h (by decide)
  · rw [if_neg a] at h; exact absurd h (by decide)
theorem newt_in {lo hi : Int} {p : List Int} (h : (newtR lo hi p).2.2 = 0) : lo ≤ (newtR lo hi p).1 ∧ (newtR lo hi p).1 ≤ (newtR lo hi p).2.1 ∧ (newtR lo hi p).2.1 ≤ hi := by
  obtain ⟨_, _, Q, S, _, _, _, _, e⟩ := newt_ok h
  rw [e] at h ⊢
  obtain ⟨a, b, c, _, _⟩ := meet_in h
  exact ⟨a, b, c⟩
/-- Where it is nought is in what the step is to meet the span with. -/
theorem newt_root {lo hi n : Int} {p : List Int} (ho : over p lo hi = 0) (h1 : lo ≤ n) (h2 : n ≤ hi) (he : exN n p p.length = 0)
    (ha : (hornR (midR lo hi) (midR lo hi) p).2.2 = 0) (hd : (slopeR lo hi p).2.2 = 0) {Q S : Int × Int × Int}
    (eQ : sbyR (hornR (midR lo hi) (midR lo hi) p).1 (hornR (midR lo hi) (midR lo hi) p).2.1 (slopeR lo hi p).1 (slopeR lo hi p).2.1 = Q) (hQ : Q.2.2 = 0)
    (eS : lessR (midR lo hi) (midR lo hi) Q.1 Q.2.1 = S) (hS : S.2.2 = 0) : S.1 ≤ n ∧ n ≤ S.2.1 := by
  obtain ⟨hp, hc⟩ := over_ok.1 ho
  have hp' := pchk_ok.1 hp
  have hl := (chk_ok.1 hc).2.2
  have hm := mid_has hl
  obtain ⟨_, es, hs⟩ := slope_ok hd
  have sc := (chk_ok.1 (slope_chk hl hd)).2.2
  have v := horn_value hp'.1 hp'.2.1 (Int.le_refl (midR lo hi)) (Int.le_refl (midR lo hi)) ha
  have f := fl_spec_pos (n := exN (midR lo hi) p p.length) (d := 1000000000000) (by decide)
  have g := fl_spec_pos (n := -exN (midR lo hi) p p.length) (d := 1000000000000) (by decide)
  have a1 : (hornR (midR lo hi) (midR lo hi) p).1 * 1000000000000 ≤ exN (midR lo hi) p p.length := by omega
  have a2 : exN (midR lo hi) p p.length ≤ (hornR (midR lo hi) (midR lo hi) p).2.1 * 1000000000000 := by
    have := v.2
    unfold ce at this
    omega
  rw [es] at eQ sc
  have k := newton_has hp'.1 hp'.2.1 h1 h2 hm.1 hm.2.1 hs sc a1 a2 he (by rw [eQ]; exact hQ)
  rw [eQ] at k
  obtain ⟨e, _, _⟩ := less_is (by rw [eS]; exact hS : (lessR (midR lo hi) (midR lo hi) Q.1 Q.2.1).2.2 = 0)
  rw [eS] at e
  rw [e]
  show midR lo hi - Q.2.1 ≤ n ∧ n ≤ midR lo hi - Q.1
  omega
/-- No root is lost, and where nothing is in both there is none. -/
theorem newt_keeps {lo hi n : Int} {p : List Int} (ho : over p lo hi = 0) (h1 : lo ≤ n) (h2 : n ≤ hi) (he : exN n p p.length = 0) :
    ((newtR lo hi p).2.2 = 0 → (newtR lo hi p).1 ≤ n ∧ n ≤ (newtR lo hi p).2.1) ∧ (newtR lo hi p).2.2 ≠ 5 := by
  obtain ⟨A, eA⟩ : ∃ A, hornR (midR lo hi) (midR lo hi) p = A := ⟨_, rfl⟩
  obtain ⟨D, eD⟩ : ∃ D, slopeR lo hi p = D := ⟨_, rfl⟩
  obtain ⟨Q, eQ⟩ : ∃ Q, sbyR A.1 A.2.1 D.1 D.2.1 = Q := ⟨_, rfl⟩
  obtain ⟨S, eS⟩ : ∃ S, lessR (midR lo hi) (midR lo hi) Q.1 Q.2.1 = S := ⟨_, rfl⟩
  rw [newt_is eA eD eQ eS]
  by_cases a : A.2.2 = 0
  · rw [if_pos a]
    by_cases d : D.2.2 = 0
    · rw [if_pos d]
      by_cases q : Q.2.2 = 0
      · rw [if_pos q]
        by_cases s : S.2.2 = 0
        · rw [if_pos s]
          have k := newt_root ho h1 h2 he (by rw [eA]; exact a) (by rw [eD]; exact d) (by rw [eA, eD]; exact eQ) q eS s
          have y : max S.1 lo ≤ min S.2.1 hi := by omega
          rw [meet_yes y]
          refine ⟨fun _ => ?_, by show (0 : Int) ≠ 5; decide⟩
          show max S.1 lo ≤ n ∧ n ≤ min S.2.1 hi
          omega
        · rw [if_neg s]; exact ⟨fun h => absurd h (by decide), by decide⟩
      · rw [if_neg q]
        refine ⟨fun h => absurd h q, ?_⟩
        rcases sby_fault A.1 A.2.1 D.1 D.2.1 with e | e | e
        · rw [eQ] at e; exact absurd e q
        · rw [eQ] at e; rw [e]; decide
        · rw [eQ] at e; rw [e]; decide
    · rw [if_neg d]; exact ⟨fun h => absurd h (by decide), by decide⟩
  · rw [if_neg a]; exact ⟨fun h => absurd h (by decide), by decide⟩

/-! So many steps. -/
/-- Behind k steps; the fault. -/
def stR (lo hi : Int) (p : List Int) : Nat → Int × Int × Int
  | 0 => (lo, hi, 0)
  | k + 1 => if (stR lo hi p k).2.2 = 0 then newtR (stR lo hi p k).1 (stR lo hi p k).2.1 p else (0, 0, (stR lo hi p k).2.2)
theorem st_succ (lo hi : Int) (p : List Int) (k : Nat) : stR lo hi p (k + 1) = if (stR lo hi p k).2.2 = 0 then newtR (stR lo hi p k).1 (stR lo hi p k).2.1 p else (0, 0, (stR lo hi p k).2.2) := rfl
def runF (p : List Int) (lo hi steps : Int) : Int := if 0 ≤ steps ∧ steps ≤ 20 then over p lo hi else 1
def runAll (p : List Int) (lo hi steps : Int) : Int × Int × Int := if runF p lo hi steps = 0 then stR lo hi p steps.toNat else (0, 0, runF p lo hi steps)
theorem run_ok {p : List Int} {lo hi steps : Int} : runF p lo hi steps = 0 ↔ (0 ≤ steps ∧ steps ≤ 20) ∧ over p lo hi = 0 := by
  unfold runF
  by_cases h : 0 ≤ steps ∧ steps ≤ 20
  · rw [if_pos h]; exact ⟨fun e => ⟨h, e⟩, fun e => e.2⟩
  · rw [if_neg h]; exact ⟨fun e => absurd e (by decide), fun e => absurd e.1 h⟩
theorem st_fault (lo hi : Int) (p : List Int) : ∀ k, (stR lo hi p k).2.2 = 0 ∨ ((stR lo hi p k).1 = 0 ∧ (stR lo hi p k).2.1 = 0)
  | 0 => .inl rfl
  | k + 1 => by
    rw [st_succ]
    split
    · exact newt_fault _ _ _
    · exact .inr ⟨rfl, rfl⟩
theorem st_in {lo hi : Int} {p : List Int} (hl : lo ≤ hi) : ∀ k, (stR lo hi p k).2.2 = 0 → lo ≤ (stR lo hi p k).1 ∧ (stR lo hi p k).1 ≤ (stR lo hi p k).2.1 ∧ (stR lo hi p k).2.1 ≤ hi
  | 0, _ => ⟨Int.le_refl _, hl, Int.le_refl _⟩
  | k + 1, h => by
    rw [st_succ] at h ⊢
    by_cases c : (stR lo hi p k).2.2 = 0
    · rw [if_pos c] at h ⊢
      have a := st_in hl k c
      have b := newt_in h
      omega
    · rw [if_neg c] at h; exact absurd h c
theorem st_over {lo hi : Int} {p : List Int} (ho : over p lo hi = 0) {k : Nat} (h : (stR lo hi p k).2.2 = 0) : over p (stR lo hi p k).1 (stR lo hi p k).2.1 = 0 := by
  have a := st_in (chk_ok.1 (over_ok.1 ho).2).2.2 k h
  exact over_in ho a.1 a.2.1 a.2.2
theorem st_keeps {lo hi n : Int} {p : List Int} (ho : over p lo hi = 0) (h1 : lo ≤ n) (h2 : n ≤ hi) (he : exN n p p.length = 0) : ∀ k,
    ((stR lo hi p k).2.2 = 0 → (stR lo hi p k).1 ≤ n ∧ n ≤ (stR lo hi p k).2.1) ∧ (stR lo hi p k).2.2 ≠ 5
  | 0 => ⟨fun _ => ⟨h1, h2⟩, by show (0 : Int) ≠ 5; decide⟩
  | k + 1 => by
    obtain ⟨i1, i2⟩ := st_keeps ho h1 h2 he k
    rw [st_succ]
    by_cases c : (stR lo hi p k).2.2 = 0
    · rw [if_pos c]
      obtain ⟨a, b⟩ := i1 c
      exact newt_keeps (st_over ho c) a b he
    · rw [if_neg c]; exact ⟨fun h => absurd h c, i2⟩
/-- Where a step changes nothing no further one does. -/
theorem st_same {lo hi : Int} {p : List Int} {k : Nat} (h : newtR (stR lo hi p k).1 (stR lo hi p k).2.1 p = stR lo hi p k) (h0 : (stR lo hi p k).2.2 = 0) : ∀ j, stR lo hi p (k + j) = stR lo hi p k
  | 0 => rfl
  | j + 1 => by
    rw [show k + (j + 1) = k + j + 1 from rfl, st_succ, st_same h h0 j, if_pos h0, h]
theorem st_stay {lo hi : Int} {p : List Int} {k : Nat} (h : ¬ (stR lo hi p k).2.2 = 0) : ∀ j, stR lo hi p (k + j) = stR lo hi p k
  | 0 => rfl
  | j + 1 => by
    rw [show k + (j + 1) = k + j + 1 from rfl, st_succ, st_stay h j, if_neg h]
    obtain ⟨a, b⟩ := (st_fault lo hi p k).resolve_left h
    exact Prod.ext a.symm (Prod.ext b.symm rfl)

/-! Of a line. -/
theorem sby_thousand {a : Int} (h : may a = true) : sbyR a a 1000 1000 = (a, a, 0) := by
  unfold sbyR
  rw [if_neg (by decide)]
  have f1 : fl (a * 1000) 1000 = a := by rw [fl_pos (by decide)]; omega
  have f2 : ce (a * 1000) 1000 = a := by rw [ce_pos (by decide)]; omega
  rw [f1, f2]
  have e1 : mn4 a a a a = a := by unfold mn4; omega
  have e2 : mx4 a a a a = a := by unfold mx4; omega
  rw [e1, e2]
  unfold fit
  rw [if_pos ⟨h, h⟩]
theorem horn_line {m c : Int} (hm : may m = true) (h : (hornR m m [c, 1000]).2.2 = 0) : may (m + c) = true := by
  have e : hornR m m [c, 1000] = hstep m m (1000, 1000, 0) c := rfl
  rw [e] at h
  unfold hstep at h
  simp only [stimes_thousand (chk_alone hm)] at h
  rw [if_pos trivial, if_pos trivial] at h
  exact (add_is h).2.1
theorem newt_line {n lo hi : Int} (ho : over [-n, 1000] lo hi = 0) : newtR lo hi [-n, 1000] = if may (midR lo hi + -n) = true then (if lo ≤ n ∧ n ≤ hi then (n, n, 0) else (0, 0, 5)) else (0, 0, 4) := by
  obtain ⟨hp, hc⟩ := over_ok.1 ho
  have hl := (chk_ok.1 hc).2.2
  have hm := mid_may hc
  by_cases h : may (midR lo hi + -n) = true
  · rw [if_pos h]
    have eA := line_horn (c := -n) (chk_alone hm) h h
    have eD := line_slope lo hi (-n)
    have eQ := sby_thousand h
    have mn : may n = true := by
      have : may (-n) = true := (pchk_ok.1 hp).2.2 _ (by simp)
      rw [may_iff] at this ⊢; omega
    have eS : lessR (midR lo hi) (midR lo hi) (midR lo hi + -n) (midR lo hi + -n) = (n, n, 0) := by
      unfold lessR
      rw [show midR lo hi - (midR lo hi + -n) = n by omega]
      unfold fit
      rw [if_pos ⟨mn, mn⟩]
    rw [newt_is eA eD eQ eS]
    rw [if_pos rfl, if_pos rfl, if_pos rfl, if_pos rfl]
    by_cases hn : lo ≤ n ∧ n ≤ hi
    · rw [if_pos hn]
      show meetR n n lo hi = _
      rw [meet_yes (by omega), show max n lo = n by omega, show min n hi = n by omega]
    · rw [if_neg hn]
      show meetR n n lo hi = _
      rw [meet_no (by omega)]
  · rw [if_neg h]
    have a : ¬ (hornR (midR lo hi) (midR lo hi) [-n, 1000]).2.2 = 0 := fun e => h (horn_line hm e)
    unfold newtR
    rw [if_neg a]
theorem newt_fact : newtAll [-2000, 1000] 0 8000 = (2000, 2000, 0) := by decide +kernel
end Um
namespace Um
set_option linter.unusedSimpArgs false

theorem sby_chk {al ah bl bh : Int} (hb : bl ≤ bh) (h : (sbyR al ah bl bh).2.2 = 0) : chk (sbyR al ah bl bh).1 (sbyR al ah bl bh).2.1 = 0 := by
  unfold sbyR at h ⊢
  by_cases hz : bl ≤ 0 ∧ 0 ≤ bh
  · rw [if_pos hz] at h; exact absurd h (by decide)
  rw [if_neg hz] at h ⊢
  have hl : fl (al * 1000) bl ≤ ce (al * 1000) bl := (fl_le_ce _ bl (by omega)).1
  obtain ⟨q0, -, -, -⟩ := mn4_le (fl (al * 1000) bl) (fl (al * 1000) bh) (fl (ah * 1000) bl) (fl (ah * 1000) bh)
  obtain ⟨p0, -, -, -⟩ := le_mx4 (ce (al * 1000) bl) (ce (al * 1000) bh) (ce (ah * 1000) bl) (ce (ah * 1000) bh)
  generalize mn4 (fl (al * 1000) bl) (fl (al * 1000) bh) (fl (ah * 1000) bl) (fl (ah * 1000) bh) = q at *
  generalize mx4 (ce (al * 1000) bl) (ce (al * 1000) bh) (ce (ah * 1000) bl) (ce (ah * 1000) bh) = p at *
  rcases fit_cases q p with e | ⟨e, m1, m2⟩
  · rw [e] at h; exact absurd h (by decide)
  · rw [e]; exact chk_ok.2 ⟨m1, m2, by show q ≤ p; omega⟩

/-- How far below a number of the span a root may be; the fault. -/
def awayR (lo hi : Int) (p : List Int) (m : Int) : Int × Int × Int :=
  if (hornR m m p).2.2 = 0 then (if (slopeR lo hi p).2.2 = 0 then sbyR (hornR m m p).1 (hornR m m p).2.1 (slopeR lo hi p).1 (slopeR lo hi p).2.1 else (0, 0, 4)) else (0, 0, 4)
theorem away_code {lo hi m : Int} {p : List Int} (ho : over p lo hi = 0) :
    awayR lo hi p m = if (hornR m m p).2.2 = 0 then (if (slopeR lo hi p).2.2 = 0 then made (sbyR (hornR m m p).1 (hornR m m p).2.1 (slopeR lo hi p).1 (slopeR lo hi p).2.1) (hornR m m p).1 (hornR m m p).2.1 (slopeR lo hi p).1 (slopeR lo hi p).2.1 else (0, 0, (slopeR lo hi p).2.2)) else (0, 0, (hornR m m p).2.2) := by
  obtain ⟨hp, hc⟩ := over_ok.1 ho
  have hp' := pchk_ok.1 hp
  have hl := (chk_ok.1 hc).2.2
  unfold awayR
  by_cases h1 : (hornR m m p).2.2 = 0
  · rw [if_pos h1, if_pos h1]
    by_cases h2 : (slopeR lo hi p).2.2 = 0
    · rw [if_pos h2, if_pos h2, made_good (horn_chk (Int.le_refl _) p hp'.1 hp'.2.2 h1) (slope_chk hl h2)]
    · rw [if_neg h2, if_neg h2, (slope_fault lo hi p).resolve_left h2]
  · rw [if_neg h1, if_neg h1, (horn_fault m m p).resolve_left h1]
theorem away_fault (lo hi m : Int) (p : List Int) : (awayR lo hi p m).2.2 = 0 ∨ awayR lo hi p m = (0, 0, (awayR lo hi p m).2.2) := by
  unfold awayR
  split
  · split
    · rcases sby_fault (hornR m m p).1 (hornR m m p).2.1 (slopeR lo hi p).1 (slopeR lo hi p).2.1 with e | e | e
      · exact .inl e
      · rw [e]; exact .inr rfl
      · rw [e]; exact .inr rfl
    · exact .inr rfl
  · exact .inr rfl
theorem away_chk {lo hi m : Int} {p : List Int} (hl : lo ≤ hi) (h : (awayR lo hi p m).2.2 = 0) : chk (awayR lo hi p m).1 (awayR lo hi p m).2.1 = 0 := by
  unfold awayR at h ⊢
  by_cases h1 : (hornR m m p).2.2 = 0
  · rw [if_pos h1] at h ⊢
    by_cases h2 : (slopeR lo hi p).2.2 = 0
    · rw [if_pos h2] at h ⊢
      exact sby_chk (chk_ok.1 (slope_chk hl h2)).2.2 h
    · rw [if_neg h2] at h; exact absurd h (by decide)
  · rw [if_neg h1] at h; exact absurd h (by decide)
theorem newt_away (lo hi : Int) (p : List Int) {A : Int × Int × Int} (eA : awayR lo hi p (midR lo hi) = A) :
    newtR lo hi p = if A.2.2 = 0 then (if (lessR (midR lo hi) (midR lo hi) A.1 A.2.1).2.2 = 0 then meetR (lessR (midR lo hi) (midR lo hi) A.1 A.2.1).1 (lessR (midR lo hi) (midR lo hi) A.1 A.2.1).2.1 lo hi else (0, 0, 4)) else (0, 0, A.2.2) := by
  subst eA
  unfold newtR awayR
  by_cases h1 : (hornR (midR lo hi) (midR lo hi) p).2.2 = 0
  · rw [if_pos h1, if_pos h1]
    by_cases h2 : (slopeR lo hi p).2.2 = 0
    · rw [if_pos h2, if_pos h2]
    · rw [if_neg h2, if_neg h2]; rfl
  · rw [if_neg h1, if_neg h1]; rfl
theorem less_right {al ah bl bh : Int} (h1 : al ≤ ah) (h2 : bl ≤ bh) (h : (lessR al ah bl bh).2.2 = 0) : chk (lessR al ah bl bh).1 (lessR al ah bl bh).2.1 = 0 := by
  obtain ⟨e, m1, m2⟩ := less_is h
  rw [e]; exact chk_ok.2 ⟨m1, m2, by show al - bh ≤ ah - bl; omega⟩
theorem newt_code {lo hi : Int} {p : List Int} (ho : over p lo hi = 0) {A S : Int × Int × Int} (eA : awayR lo hi p (midR lo hi) = A)
    (eS : made (lessR (midR lo hi) (midR lo hi) A.1 A.2.1) (midR lo hi) (midR lo hi) A.1 A.2.1 = S) :
    newtR lo hi p = if A.2.2 = 0 then (if S.2.2 = 0 then made (meetR S.1 S.2.1 lo hi) S.1 S.2.1 lo hi else (0, 0, S.2.2)) else (0, 0, A.2.2) := by
  obtain ⟨hp, hc⟩ := over_ok.1 ho
  have hl := (chk_ok.1 hc).2.2
  have hm := chk_alone (mid_may hc)
  rw [newt_away lo hi p eA]
  by_cases h1 : A.2.2 = 0
  · rw [if_pos h1, if_pos h1]
    have cA : chk A.1 A.2.1 = 0 := by rw [← eA]; exact away_chk hl (by rw [eA]; exact h1)
    rw [made_good hm cA] at eS
    rw [eS]
    by_cases h2 : S.2.2 = 0
    · rw [if_pos h2, if_pos h2]
      have cS : chk S.1 S.2.1 = 0 := by rw [← eS]; exact less_right (Int.le_refl _) (chk_ok.1 cA).2.2 (by rw [eS]; exact h2)
      rw [made_good cS hc]
    · rw [if_neg h2, if_neg h2]
      have f := less_fault (midR lo hi) (midR lo hi) A.1 A.2.1
      rw [eS] at f
      rw [f.resolve_left h2]
  · rw [if_neg h1, if_neg h1]
/-- Where a step tells a fault, or changes nothing, so many do. -/
theorem run_bad {lo hi : Int} {p : List Int} {k n : Nat} (hk : k < n) (h0 : (stR lo hi p k).2.2 = 0) (h : ¬ (newtR (stR lo hi p k).1 (stR lo hi p k).2.1 p).2.2 = 0) :
    stR lo hi p n = (0, 0, (newtR (stR lo hi p k).1 (stR lo hi p k).2.1 p).2.2) := by
  have e : stR lo hi p (k + 1) = newtR (stR lo hi p k).1 (stR lo hi p k).2.1 p := by rw [st_succ, if_pos h0]
  obtain ⟨j, rfl⟩ : ∃ j, n = k + 1 + j := ⟨n - (k + 1), by omega⟩
  rw [st_stay (by rw [e]; exact h) j, e]
  obtain ⟨a, b⟩ := (newt_fault (stR lo hi p k).1 (stR lo hi p k).2.1 p).resolve_left h
  exact Prod.ext a (Prod.ext b rfl)
theorem run_same {lo hi : Int} {p : List Int} {k n : Nat} (hk : k < n) (h0 : (stR lo hi p k).2.2 = 0) (h : newtR (stR lo hi p k).1 (stR lo hi p k).2.1 p = ((stR lo hi p k).1, (stR lo hi p k).2.1, 0)) :
    stR lo hi p n = ((stR lo hi p k).1, (stR lo hi p k).2.1, 0) := by
  have e : stR lo hi p k = ((stR lo hi p k).1, (stR lo hi p k).2.1, 0) := Prod.ext rfl (Prod.ext rfl h0)
  obtain ⟨j, rfl⟩ : ∃ j, n = k + j := ⟨n - k, by omega⟩
  rw [st_same (h.trans e.symm) h0 j]
  exact e
end Um
