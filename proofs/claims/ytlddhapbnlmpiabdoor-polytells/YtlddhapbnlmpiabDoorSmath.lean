/-
  Plain arithmetic of spans, no program: what is made of two spans (the least and the greatest of four), by way of each pair of ends, and at once; what is in both is in what is made of them.
-/
import Derived.Test.YtlddhapbnlmpiabDoorMath
namespace Um
set_option linter.unusedSimpArgs false
/-- A span that fits, or none and error 4. -/
def fit (lo hi : Int) : Int × Int × Int := if may lo = true ∧ may hi = true then (lo, hi, 0) else (0, 0, 4)
/-- What is wrong with a span. -/
def chk (lo hi : Int) : Int := if may lo = true ∧ may hi = true then (if hi < lo then 3 else 0) else 1
def two (al ah bl bh : Int) : Int := if chk al ah = 0 then chk bl bh else chk al ah
def mn4 (a b c d : Int) : Int := min (min (min a b) c) d
def mx4 (a b c d : Int) : Int := max (max (max a b) c) d
/-- The outcome of four pairs of ends, one behind the other: the first error, or the least lower one and the greatest upper one. -/
def seq4 (r0 r1 r2 r3 : Int × Int × Int) : Int × Int × Int :=
  if r0.2.2 ≠ 0 then (0, 0, r0.2.2) else if r1.2.2 ≠ 0 then (0, 0, r1.2.2) else if r2.2.2 ≠ 0 then (0, 0, r2.2.2) else if r3.2.2 ≠ 0 then (0, 0, r3.2.2)
  else (mn4 r0.1 r1.1 r2.1 r3.1, mx4 r0.2.1 r1.2.1 r2.2.1 r3.2.1, 0)
def addR (al ah bl bh : Int) : Int × Int × Int := fit (al + bl) (ah + bh)
def lessR (al ah bl bh : Int) : Int × Int × Int := fit (al - bh) (ah - bl)
def stimesR (al ah bl bh : Int) : Int × Int × Int := fit (fl (mn4 (al * bl) (al * bh) (ah * bl) (ah * bh)) 1000) (ce (mx4 (al * bl) (al * bh) (ah * bl) (ah * bh)) 1000)
def sbyR (al ah bl bh : Int) : Int × Int × Int := if bl ≤ 0 ∧ 0 ≤ bh then (0, 0, 8) else
  fit (mn4 (fl (al * 1000) bl) (fl (al * 1000) bh) (fl (ah * 1000) bl) (fl (ah * 1000) bh)) (mx4 (ce (al * 1000) bl) (ce (al * 1000) bh) (ce (ah * 1000) bl) (ce (ah * 1000) bh))
def hullR (al ah bl bh : Int) : Int × Int × Int := (min al bl, max ah bh, 0)
def meetR (al ah bl bh : Int) : Int × Int × Int := if max al bl ≤ min ah bh then (max al bl, min ah bh, 0) else (0, 0, 5)
/-- What is made of two spans, whatever they are: first what is wrong with them. -/
def made (R : Int × Int × Int) (al ah bl bh : Int) : Int × Int × Int := if two al ah bl bh = 0 then R else (0, 0, two al ah bl bh)

theorem chk_ok {lo hi : Int} : chk lo hi = 0 ↔ may lo = true ∧ may hi = true ∧ lo ≤ hi := by
  unfold chk
  by_cases h : may lo = true ∧ may hi = true
  · rw [if_pos h]
    by_cases h2 : hi < lo
    · rw [if_pos h2]; constructor
      · intro h3; omega
      · intro h3; omega
    · rw [if_neg h2]; exact ⟨fun _ => ⟨h.1, h.2, by omega⟩, fun _ => rfl⟩
  · rw [if_neg h]; constructor
    · intro h3; omega
    · intro h3; exact absurd ⟨h3.1, h3.2.1⟩ h
theorem two_ok {al ah bl bh : Int} : two al ah bl bh = 0 ↔ chk al ah = 0 ∧ chk bl bh = 0 := by
  unfold two
  by_cases h : chk al ah = 0
  · rw [if_pos h]; exact ⟨fun h2 => ⟨h, h2⟩, fun h2 => h2.2⟩
  · rw [if_neg h]; exact ⟨fun h2 => absurd h2 h, fun h2 => absurd h2.1 h⟩

theorem chk_big {lo hi : Int} (h : (!may lo || !may hi) = true) : chk lo hi = 1 := by
  unfold chk
  rw [if_neg]
  intro hh
  rw [hh.1, hh.2] at h
  cases h
theorem chk_may {lo hi : Int} (h : (!may lo || !may hi) = false) : may lo = true ∧ may hi = true := by
  cases h1 : may lo <;> cases h2 : may hi <;> rw [h1, h2] at h <;> first | exact ⟨rfl, rfl⟩ | cases h
theorem chk_turned {lo hi : Int} (h : (!may lo || !may hi) = false) (h2 : hi < lo) : chk lo hi = 3 := by
  unfold chk; rw [if_pos (chk_may h), if_pos h2]
theorem chk_right {lo hi : Int} (h : (!may lo || !may hi) = false) (h2 : ¬ hi < lo) : chk lo hi = 0 := by
  unfold chk; rw [if_pos (chk_may h), if_neg h2]

theorem fit_no {lo hi : Int} (h : (!may lo || !may hi) = true) : fit lo hi = (0, 0, 4) := by
  unfold fit
  rw [if_neg]
  intro hh
  rw [hh.1, hh.2] at h
  cases h
theorem fit_yes {lo hi : Int} (h : (!may lo || !may hi) = false) : fit lo hi = (lo, hi, 0) := by
  unfold fit; rw [if_pos (chk_may h)]
theorem made_good {R : Int × Int × Int} {al ah bl bh : Int} (h1 : chk al ah = 0) (h2 : chk bl bh = 0) : made R al ah bl bh = R := by
  unfold made; rw [if_pos (two_ok.2 ⟨h1, h2⟩)]
theorem made_first {R : Int × Int × Int} {al ah bl bh : Int} (h1 : ¬ chk al ah = 0) : made R al ah bl bh = (0, 0, chk al ah) := by
  have e : two al ah bl bh = chk al ah := by unfold two; rw [if_neg h1]
  unfold made; rw [e, if_neg h1]
theorem made_second {R : Int × Int × Int} {al ah bl bh : Int} (h1 : chk al ah = 0) (h2 : ¬ chk bl bh = 0) : made R al ah bl bh = (0, 0, chk bl bh) := by
  have e : two al ah bl bh = chk bl bh := by unfold two; rw [if_pos h1]
  unfold made; rw [e, if_neg h2]
theorem meet_yes {al ah bl bh : Int} (h : max al bl ≤ min ah bh) : meetR al ah bl bh = (max al bl, min ah bh, 0) := by unfold meetR; rw [if_pos h]
theorem meet_no {al ah bl bh : Int} (h : ¬ max al bl ≤ min ah bh) : meetR al ah bl bh = (0, 0, 5) := by unfold meetR; rw [if_neg h]

theorem next_yes {n d : Int} (h1 : may (fl n d) = true) (h2 : may (ce n d) = true) : nextR n d = (fl n d, ce n d, 0) := by simp [nextR, h1, h2]
theorem next_no {n d : Int} (h : ¬ (may (fl n d) = true ∧ may (ce n d) = true)) : nextR n d = (0, 0, 4) := by simp only [nextR, if_neg h]

/-- By way of each pair, or at once: the same. -/
theorem seq_next (n0 n1 n2 n3 d0 d1 d2 d3 : Int) (h0 : ¬ d0 = 0) (h1 : ¬ d1 = 0) (h2 : ¬ d2 = 0) (h3 : ¬ d3 = 0) :
    seq4 (nextR n0 d0) (nextR n1 d1) (nextR n2 d2) (nextR n3 d3) = fit (mn4 (fl n0 d0) (fl n1 d1) (fl n2 d2) (fl n3 d3)) (mx4 (ce n0 d0) (ce n1 d1) (ce n2 d2) (ce n3 d3)) := by
  have k0 := (fl_le_ce n0 d0 h0).1
  have k1 := (fl_le_ce n1 d1 h1).1
  have k2 := (fl_le_ce n2 d2 h2).1
  have k3 := (fl_le_ce n3 d3 h3).1
  have out : ∀ (a b c d a' b' c' d' : Int), a ≤ a' → b ≤ b' → c ≤ c' → d ≤ d' → (¬ (may a = true ∧ may a' = true) ∨ ¬ (may b = true ∧ may b' = true) ∨ ¬ (may c = true ∧ may c' = true) ∨ ¬ (may d = true ∧ may d' = true)) →
      fit (mn4 a b c d) (mx4 a' b' c' d') = (0, 0, 4) := by
    intro a b c d a' b' c' d' e0 e1 e2 e3 h
    unfold fit
    rw [if_neg]
    simp only [may_iff] at h ⊢
    unfold mn4 mx4
    omega
  by_cases c0 : may (fl n0 d0) = true ∧ may (ce n0 d0) = true
  · by_cases c1 : may (fl n1 d1) = true ∧ may (ce n1 d1) = true
    · by_cases c2 : may (fl n2 d2) = true ∧ may (ce n2 d2) = true
      · by_cases c3 : may (fl n3 d3) = true ∧ may (ce n3 d3) = true
        · rw [next_yes c0.1 c0.2, next_yes c1.1 c1.2, next_yes c2.1 c2.2, next_yes c3.1 c3.2]
          simp only [may_iff] at c0 c1 c2 c3
          have : may (mn4 (fl n0 d0) (fl n1 d1) (fl n2 d2) (fl n3 d3)) = true ∧ may (mx4 (ce n0 d0) (ce n1 d1) (ce n2 d2) (ce n3 d3)) = true := by
            simp only [may_iff]; unfold mn4 mx4; omega
          simp [seq4, fit, this]
        · rw [next_yes c0.1 c0.2, next_yes c1.1 c1.2, next_yes c2.1 c2.2, next_no c3, out _ _ _ _ _ _ _ _ k0 k1 k2 k3 (.inr (.inr (.inr c3)))]; simp [seq4]
      · rw [next_yes c0.1 c0.2, next_yes c1.1 c1.2, next_no c2, out _ _ _ _ _ _ _ _ k0 k1 k2 k3 (.inr (.inr (.inl c2)))]; simp [seq4]
    · rw [next_yes c0.1 c0.2, next_no c1, out _ _ _ _ _ _ _ _ k0 k1 k2 k3 (.inr (.inl c1))]; simp [seq4]
  · rw [next_no c0, out _ _ _ _ _ _ _ _ k0 k1 k2 k3 (.inl c0)]; simp [seq4]

theorem fl_mono {m n d : Int} (hd : 0 < d) (h : m ≤ n) : fl m d ≤ fl n d := by rw [fl_pos hd, fl_pos hd]; exact Int.ediv_le_ediv hd h
theorem ce_mono {m n d : Int} (hd : 0 < d) (h : m ≤ n) : ce m d ≤ ce n d := by
  unfold ce
  have := fl_mono hd (show -n ≤ -m by omega)
  omega
theorem fl_min (d a b : Int) (hd : 0 < d) : fl (min a b) d = min (fl a d) (fl b d) := by
  rcases Int.le_total a b with h | h
  · have := fl_mono hd h
    rw [show min a b = a by omega]; omega
  · have := fl_mono hd h
    rw [show min a b = b by omega]; omega
theorem ce_max (d a b : Int) (hd : 0 < d) : ce (max a b) d = max (ce a d) (ce b d) := by
  rcases Int.le_total a b with h | h
  · have := ce_mono hd h
    rw [show max a b = b by omega]; omega
  · have := ce_mono hd h
    rw [show max a b = a by omega]; omega
theorem fl_mn4 (d a b c e : Int) (hd : 0 < d) : fl (mn4 a b c e) d = mn4 (fl a d) (fl b d) (fl c d) (fl e d) := by
  unfold mn4; rw [fl_min _ _ _ hd, fl_min _ _ _ hd, fl_min _ _ _ hd]
theorem ce_mx4 (d a b c e : Int) (hd : 0 < d) : ce (mx4 a b c e) d = mx4 (ce a d) (ce b d) (ce c d) (ce e d) := by
  unfold mx4; rw [ce_max _ _ _ hd, ce_max _ _ _ hd, ce_max _ _ _ hd]

theorem stimes_seq {al ah bl bh : Int} (h1 : may al = true) (h2 : may ah = true) (h3 : may bl = true) (h4 : may bh = true) :
    seq4 (timesR al bl) (timesR al bh) (timesR ah bl) (timesR ah bh) = stimesR al ah bl bh := by
  have e : ∀ x y, may x = true → may y = true → timesR x y = nextR (x * y) 1000 := fun x y hx hy => by simp [timesR, hx, hy]
  rw [e _ _ h1 h3, e _ _ h1 h4, e _ _ h2 h3, e _ _ h2 h4, seq_next _ _ _ _ _ _ _ _ (by decide) (by decide) (by decide) (by decide)]
  unfold stimesR
  rw [fl_mn4 _ _ _ _ _ (by decide), ce_mx4 _ _ _ _ _ (by decide)]
theorem sby_seq {al ah bl bh : Int} (h1 : may al = true) (h2 : may ah = true) (h3 : may bl = true) (h4 : may bh = true) (hb : bl ≤ bh) (hz : ¬ (bl ≤ 0 ∧ 0 ≤ bh)) :
    seq4 (byR al bl) (byR al bh) (byR ah bl) (byR ah bh) = sbyR al ah bl bh := by
  have z1 : ¬ bl = 0 := by omega
  have z2 : ¬ bh = 0 := by omega
  have e : ∀ x y, may x = true → may y = true → ¬ y = 0 → byR x y = nextR (x * 1000) y := fun x y hx hy hy0 => by simp [byR, hx, hy, hy0]
  rw [e _ _ h1 h3 z1, e _ _ h1 h4 z2, e _ _ h2 h3 z1, e _ _ h2 h4 z2, seq_next _ _ _ _ _ _ _ _ z1 z2 z1 z2]
  unfold sbyR
  rw [if_neg hz]

/-- A number times what lies between two lies between both products. -/
theorem lin_le {c l h y m : Int} (h1 : l ≤ y) (h2 : y ≤ h) (a : c * l ≤ m) (b : c * h ≤ m) : c * y ≤ m := by
  rcases Int.le_total 0 c with hc | hc
  · exact Int.le_trans (Int.mul_le_mul_of_nonneg_left h2 hc) b
  · exact Int.le_trans (Int.mul_le_mul_of_nonpos_left hc h1) a
theorem le_lin {c l h y m : Int} (h1 : l ≤ y) (h2 : y ≤ h) (a : m ≤ c * l) (b : m ≤ c * h) : m ≤ c * y := by
  rcases Int.le_total 0 c with hc | hc
  · exact Int.le_trans a (Int.mul_le_mul_of_nonneg_left h1 hc)
  · exact Int.le_trans b (Int.mul_le_mul_of_nonpos_left hc h2)
theorem corners {al ah bl bh x y : Int} (h1 : al ≤ x) (h2 : x ≤ ah) (h3 : bl ≤ y) (h4 : y ≤ bh) :
    mn4 (al * bl) (al * bh) (ah * bl) (ah * bh) ≤ x * y ∧ x * y ≤ mx4 (al * bl) (al * bh) (ah * bl) (ah * bh) := by
  constructor
  · refine le_lin h3 h4 ?_ ?_
    · rw [Int.mul_comm x]; refine le_lin h1 h2 ?_ ?_ <;> rw [Int.mul_comm bl] <;> unfold mn4 <;> omega
    · rw [Int.mul_comm x]; refine le_lin h1 h2 ?_ ?_ <;> rw [Int.mul_comm bh] <;> unfold mn4 <;> omega
  · refine lin_le h3 h4 ?_ ?_
    · rw [Int.mul_comm x]; refine lin_le h1 h2 ?_ ?_ <;> rw [Int.mul_comm bl] <;> unfold mx4 <;> omega
    · rw [Int.mul_comm x]; refine lin_le h1 h2 ?_ ?_ <;> rw [Int.mul_comm bh] <;> unfold mx4 <;> omega

theorem fit_cases (lo hi : Int) : (fit lo hi = (0, 0, 4)) ∨ (fit lo hi = (lo, hi, 0) ∧ may lo = true ∧ may hi = true) := by
  unfold fit
  by_cases h : may lo = true ∧ may hi = true
  · rw [if_pos h]; exact .inr ⟨rfl, h.1, h.2⟩
  · rw [if_neg h]; exact .inl rfl

/-- What is in both, times each other, is in what is told. -/
theorem stimes_has {al ah bl bh x y : Int} (h1 : al ≤ x) (h2 : x ≤ ah) (h3 : bl ≤ y) (h4 : y ≤ bh) (h : (stimesR al ah bl bh).2.2 = 0) :
    may (stimesR al ah bl bh).1 = true ∧ may (stimesR al ah bl bh).2.1 = true ∧ (stimesR al ah bl bh).1 * 1000 ≤ x * y ∧ x * y ≤ (stimesR al ah bl bh).2.1 * 1000 := by
  have hc := corners h1 h2 h3 h4
  unfold stimesR at h ⊢
  generalize mn4 (al * bl) (al * bh) (ah * bl) (ah * bh) = mn at *
  generalize mx4 (al * bl) (al * bh) (ah * bl) (ah * bh) = mx at *
  have s1 := fl_spec_pos (n := mn) (d := 1000) (by decide)
  have s2 := ce_spec_pos (n := mx) (d := 1000) (by decide)
  rcases fit_cases (fl mn 1000) (ce mx 1000) with e | ⟨e, m1, m2⟩
  · rw [e] at h; exact absurd h (by decide)
  · rw [e]; exact ⟨m1, m2, by show fl mn 1000 * 1000 ≤ _; omega, by show _ ≤ ce mx 1000 * 1000; omega⟩

theorem mn4_le (a b c d : Int) : mn4 a b c d ≤ a ∧ mn4 a b c d ≤ b ∧ mn4 a b c d ≤ c ∧ mn4 a b c d ≤ d := by unfold mn4; omega
theorem le_mx4 (a b c d : Int) : a ≤ mx4 a b c d ∧ b ≤ mx4 a b c d ∧ c ≤ mx4 a b c d ∧ d ≤ mx4 a b c d := by unfold mx4; omega
theorem low_pos {q n d : Int} (hd : 0 < d) (h : q ≤ fl n d) : q * d ≤ n := by
  have h1 := (fl_spec_pos (n := n) hd).1
  have h2 := Int.mul_le_mul_of_nonneg_left h (Int.le_of_lt hd)
  rw [Int.mul_comm q]; omega
theorem high_pos {q n d : Int} (hd : 0 < d) (h : ce n d ≤ q) : n ≤ q * d := by
  have h1 := (ce_spec_pos (n := n) hd).1
  have h2 := Int.mul_le_mul_of_nonneg_left h (Int.le_of_lt hd)
  rw [Int.mul_comm q]; omega
theorem low_neg {q n d : Int} (hd : d < 0) (h : q ≤ fl n d) : n ≤ q * d := by
  have h1 := (fl_spec_neg (n := n) hd).1
  have h2 := Int.mul_le_mul_of_nonpos_left (Int.le_of_lt hd) h
  rw [Int.mul_comm q]; omega
theorem high_neg {q n d : Int} (hd : d < 0) (h : ce n d ≤ q) : q * d ≤ n := by
  have h1 := (ce_spec_neg (n := n) hd).1
  have h2 := Int.mul_le_mul_of_nonpos_left (Int.le_of_lt hd) h
  rw [Int.mul_comm q]; omega

/-- What is in both, by each other, is in what is told. -/
theorem sby_has {al ah bl bh x y : Int} (h1 : al ≤ x) (h2 : x ≤ ah) (h3 : bl ≤ y) (h4 : y ≤ bh) (h : (sbyR al ah bl bh).2.2 = 0) :
    may (sbyR al ah bl bh).1 = true ∧ may (sbyR al ah bl bh).2.1 = true ∧
      ((0 < y ∧ (sbyR al ah bl bh).1 * y ≤ 1000 * x ∧ 1000 * x ≤ (sbyR al ah bl bh).2.1 * y) ∨ (y < 0 ∧ 1000 * x ≤ (sbyR al ah bl bh).1 * y ∧ (sbyR al ah bl bh).2.1 * y ≤ 1000 * x)) := by
  unfold sbyR at h ⊢
  by_cases hz : bl ≤ 0 ∧ 0 ≤ bh
  · rw [if_pos hz] at h; exact absurd h (by decide)
  rw [if_neg hz] at h ⊢
  obtain ⟨q0, q1, q2, q3⟩ := mn4_le (fl (al * 1000) bl) (fl (al * 1000) bh) (fl (ah * 1000) bl) (fl (ah * 1000) bh)
  obtain ⟨p0, p1, p2, p3⟩ := le_mx4 (ce (al * 1000) bl) (ce (al * 1000) bh) (ce (ah * 1000) bl) (ce (ah * 1000) bh)
  generalize mn4 (fl (al * 1000) bl) (fl (al * 1000) bh) (fl (ah * 1000) bl) (fl (ah * 1000) bh) = q at *
  generalize mx4 (ce (al * 1000) bl) (ce (al * 1000) bh) (ce (ah * 1000) bl) (ce (ah * 1000) bh) = p at *
  rcases fit_cases q p with e | ⟨e, m1, m2⟩
  · rw [e] at h; exact absurd h (by decide)
  rw [e]
  refine ⟨m1, m2, ?_⟩
  show (0 < y ∧ q * y ≤ 1000 * x ∧ 1000 * x ≤ p * y) ∨ (y < 0 ∧ 1000 * x ≤ q * y ∧ p * y ≤ 1000 * x)
  rcases (by omega : 0 < bl ∨ bh < 0) with hp | hn
  · have d1 := low_pos hp q0
    have d2 := low_pos (show 0 < bh by omega) q1
    have d3 := high_pos hp p2
    have d4 := high_pos (show 0 < bh by omega) p3
    have g1 := lin_le h3 h4 d1 d2
    have g2 := le_lin h3 h4 d3 d4
    exact .inl ⟨by omega, by omega, by omega⟩
  · have d1 := low_neg (show bl < 0 by omega) q2
    have d2 := low_neg hn q3
    have d3 := high_neg (show bl < 0 by omega) p0
    have d4 := high_neg hn p1
    have g1 := le_lin h3 h4 d1 d2
    have g2 := lin_le h3 h4 d3 d4
    exact .inr ⟨by omega, by omega, by omega⟩
end Um
