/-
  Plain arithmetic of polynomials of one unknown by powers, no program: what it is at a number of the span is in its range by powers.
-/
import Derived.Test.YtlddhapbnlmpiabQmath
namespace Um
set_option linter.unusedSimpArgs false

theorem ag_four {n : Int} (hn : 0 ≤ n) (hm : n ≤ 1000000000) (h : (agR n 4).2.2 = 0) : (agR n 4).1 * 1000000000 ≤ n * n * n * n ∧ n * n * n * n ≤ (agR n 4).2.1 * 1000000000 := by
  obtain ⟨h3, _, e⟩ := ag_step h
  obtain ⟨t1, t2⟩ := ag_three hn hm h3
  rw [e]
  generalize (agR n 3).1 = a at *
  generalize (agR n 3).2.1 = b at *
  have s1 := fl_spec_pos (n := a * n) (d := 1000) (by decide)
  have s2 := ce_spec_pos (n := b * n) (d := 1000) (by decide)
  have u1 := Int.mul_le_mul_of_nonneg_right t1 hn
  have u2 := Int.mul_le_mul_of_nonneg_right t2 hn
  have v1 : a * 1000000 * n = 1000000 * (a * n) := by rw [Int.mul_comm a 1000000, Int.mul_assoc]
  have v2 : b * 1000000 * n = 1000000 * (b * n) := by rw [Int.mul_comm b 1000000, Int.mul_assoc]
  rw [v1] at u1
  rw [v2] at u2
  exact ⟨by show fl (a * n) 1000 * 1000000000 ≤ _; omega, by show _ ≤ ce (b * n) 1000 * 1000000000; omega⟩
theorem four_mono {a b : Int} (ha : 0 ≤ a) (h : a ≤ b) : a * a * a * a ≤ b * b * b * b :=
  Int.mul_le_mul (cube_mono_nonneg ha h) h ha (cube_sign (Int.le_trans ha h))
theorem ab_four (x : Int) : ab x * ab x * ab x * ab x = x * x * x * x := by
  have e := ab_sq x
  rw [Int.mul_assoc (ab x * ab x), e, ← Int.mul_assoc]
theorem pow_four {lo hi x : Int} (m1 : may lo = true) (m2 : may hi = true) (h1 : lo ≤ x) (h2 : x ≤ hi) (h : (powR lo hi 4).2.2 = 0) :
    (powR lo hi 4).1 * 1000000000 ≤ x * x * x * x ∧ x * x * x * x ≤ (powR lo hi 4).2.1 * 1000000000 := by
  have hf := far_has h1 h2
  have hr := far_right (Int.le_trans h1 h2)
  have hm := far_may m1 m2
  unfold powR at h ⊢
  rw [if_pos (by decide)] at h ⊢
  obtain ⟨k1, k2, e⟩ := both_ok h
  rw [e]
  generalize (farR lo hi).1 = p at *
  generalize (farR lo hi).2 = q at *
  have a1 := ag_four hr.1 (by omega) k1
  have a2 := ag_four (n := q) (by omega) hm k2
  have g1 := four_mono hr.1 hf.1
  have g2 := four_mono (ab_nonneg x) hf.2
  rw [ab_four] at g1 g2
  exact ⟨by show (agR p 4).1 * 1000000000 ≤ _; omega, by show _ ≤ (agR q 4).2.1 * 1000000000; omega⟩
theorem pow_cube {lo hi x : Int} (m1 : may lo = true) (m2 : may hi = true) (h1 : lo ≤ x) (h2 : x ≤ hi) (h : (powR lo hi 3).2.2 = 0) :
    (powR lo hi 3).1 * 1000000 ≤ x * x * x ∧ x * x * x ≤ (powR lo hi 3).2.1 * 1000000 := by
  unfold powR at h ⊢
  rw [if_neg (by decide)] at h ⊢
  obtain ⟨k1, k2, e⟩ := both_ok h
  rw [e]
  have t1 := (end_three m1 k1).2.2.2.1
  have t2 := (end_three m2 k2).2.2.2.2
  have c1 := cube_mono h1
  have c2 := cube_mono h2
  refine ⟨?_, ?_⟩
  · show (endR lo 3).1 * 1000000 ≤ x * x * x; omega
  · show x * x * x ≤ (endR hi 3).2.1 * 1000000; omega
/-- A number of a span, so many times with itself, is in the power of the span: by 1000, as often. -/
theorem pow_has {lo hi n : Int} (hc : chk lo hi = 0) (h1 : lo ≤ n) (h2 : n ≤ hi) {k : Nat} (hk : k ≤ 4) (h : (powR lo hi k).2.2 = 0) :
    (powR lo hi k).1 * 1000 ^ k ≤ 1000 * n ^ k ∧ 1000 * n ^ k ≤ (powR lo hi k).2.1 * 1000 ^ k := by
  obtain ⟨m1, m2, m3⟩ := chk_ok.1 hc
  rcases (by omega : k = 0 ∨ k = 1 ∨ k = 2 ∨ k = 3 ∨ k = 4) with rfl | rfl | rfl | rfl | rfl
  · rw [pow_zero]; simp
  · rw [pow_once m1 m2]
    simp only [Int.pow_succ, Int.pow_zero, Int.one_mul]
    omega
  · obtain ⟨_, _, t1, t2⟩ := pow_two m1 m2 h1 h2 h
    simp only [Int.pow_succ, Int.pow_zero, Int.one_mul]
    omega
  · obtain ⟨t1, t2⟩ := pow_cube m1 m2 h1 h2 h
    simp only [Int.pow_succ, Int.pow_zero, Int.one_mul]
    omega
  · obtain ⟨t1, t2⟩ := pow_four m1 m2 h1 h2 h
    simp only [Int.pow_succ, Int.pow_zero, Int.one_mul]
    omega
theorem ag_chk {n : Int} (hn : 0 ≤ n) (k : Nat) (h : (agR n k).2.2 = 0) : may (agR n k).1 = true ∧ may (agR n k).2.1 = true ∧ (agR n k).1 ≤ (agR n k).2.1 := by
  have r := ag_right hn k h
  exact ⟨(may_iff _).2 (by omega), (may_iff _).2 (by omega), r.2.1⟩
/-- The power of a right span is right. -/
theorem pow_chk {lo hi : Int} (hc : chk lo hi = 0) {k : Nat} (hk : k ≤ 4) (h : (powR lo hi k).2.2 = 0) : chk (powR lo hi k).1 (powR lo hi k).2.1 = 0 := by
  obtain ⟨m1, m2, m3⟩ := chk_ok.1 hc
  have b1 := pow_has hc (Int.le_refl _) m3 hk h
  have hp : (0 : Int) < 1000 ^ k := Int.pow_pos (by decide)
  have le : (powR lo hi k).1 ≤ (powR lo hi k).2.1 := by
    rcases Int.lt_or_le (powR lo hi k).2.1 (powR lo hi k).1 with c | c
    · have := Int.mul_lt_mul_of_pos_right c hp
      omega
    · exact c
  have hm : may (powR lo hi k).1 = true ∧ may (powR lo hi k).2.1 = true := by
    have hr := far_right m3
    have en : ∀ n, (endR n k).2.2 = 0 → may (endR n k).1 = true ∧ may (endR n k).2.1 = true := fun n he => by
      unfold endR at he ⊢
      by_cases hn : 0 ≤ n
      · rw [if_pos hn] at he ⊢
        have := ag_chk hn k he
        exact ⟨this.1, this.2.1⟩
      · rw [if_neg hn] at he ⊢
        have := ag_right (n := -n) (by omega) k he
        exact ⟨(may_iff _).2 (by show -1000000000 ≤ -(agR (-n) k).2.1 ∧ -(agR (-n) k).2.1 ≤ 1000000000; omega), (may_iff _).2 (by show -1000000000 ≤ -(agR (-n) k).1 ∧ -(agR (-n) k).1 ≤ 1000000000; omega)⟩
    unfold powR at h ⊢
    by_cases hp : k % 2 = 0
    · rw [if_pos hp] at h ⊢
      obtain ⟨k1, k2, e⟩ := both_ok h
      rw [e]
      exact ⟨(ag_chk hr.1 k k1).1, (ag_chk (by omega) k k2).2.1⟩
    · rw [if_neg hp] at h ⊢
      obtain ⟨k1, k2, e⟩ := both_ok h
      rw [e]
      exact ⟨(en lo k1).1, (en hi k2).2⟩
  exact chk_ok.2 ⟨hm.1, hm.2, le⟩

/-- One term more: the factor times the power of the span, added. -/
def pstep (lo hi : Int) (s : Int × Int × Int) (c : Int) (k : Nat) : Int × Int × Int :=
  if s.2.2 = 0 then (if (powR lo hi k).2.2 = 0 then (if (stimesR c c (powR lo hi k).1 (powR lo hi k).2.1).2.2 = 0 then
    addR s.1 s.2.1 (stimesR c c (powR lo hi k).1 (powR lo hi k).2.1).1 (stimesR c c (powR lo hi k).1 (powR lo hi k).2.1).2.1 else (0, 0, 4)) else (0, 0, 4)) else (0, 0, 4)
/-- So many terms, from the power 0 on. -/
def powsN (lo hi : Int) (p : List Int) : Nat → Int × Int × Int
  | 0 => (0, 0, 0)
  | k + 1 => pstep lo hi (powsN lo hi p k) (p.getD k 0) k
theorem pows_succ (lo hi : Int) (p : List Int) (k : Nat) : powsN lo hi p (k + 1) = pstep lo hi (powsN lo hi p k) (p.getD k 0) k := rfl
theorem pstep_ok {lo hi c : Int} {s : Int × Int × Int} {k : Nat} (h : (pstep lo hi s c k).2.2 = 0) :
    s.2.2 = 0 ∧ (powR lo hi k).2.2 = 0 ∧ (stimesR c c (powR lo hi k).1 (powR lo hi k).2.1).2.2 = 0 ∧
    (addR s.1 s.2.1 (stimesR c c (powR lo hi k).1 (powR lo hi k).2.1).1 (stimesR c c (powR lo hi k).1 (powR lo hi k).2.1).2.1).2.2 = 0 ∧
    pstep lo hi s c k = addR s.1 s.2.1 (stimesR c c (powR lo hi k).1 (powR lo hi k).2.1).1 (stimesR c c (powR lo hi k).1 (powR lo hi k).2.1).2.1 := by
  unfold pstep at h ⊢
  by_cases h1 : s.2.2 = 0
  · rw [if_pos h1] at h ⊢
    by_cases h2 : (powR lo hi k).2.2 = 0
    · rw [if_pos h2] at h ⊢
      by_cases h3 : (stimesR c c (powR lo hi k).1 (powR lo hi k).2.1).2.2 = 0
      · rw [if_pos h3] at h ⊢; exact ⟨h1, h2, h3, h, rfl⟩
      · rw [if_neg h3] at h; exact absurd h (by decide)
    · rw [if_neg h2] at h; exact absurd h (by decide)
  · rw [if_neg h1] at h; exact absurd h (by decide)
theorem pstep_fault (lo hi : Int) (s : Int × Int × Int) (c : Int) (k : Nat) : (pstep lo hi s c k).2.2 = 0 ∨ pstep lo hi s c k = (0, 0, 4) := by
  unfold pstep
  by_cases h1 : s.2.2 = 0
  · rw [if_pos h1]
    by_cases h2 : (powR lo hi k).2.2 = 0
    · rw [if_pos h2]
      by_cases h3 : (stimesR c c (powR lo hi k).1 (powR lo hi k).2.1).2.2 = 0
      · rw [if_pos h3]; exact add_fault _ _ _ _
      · rw [if_neg h3]; exact .inr rfl
    · rw [if_neg h2]; exact .inr rfl
  · rw [if_neg h1]; exact .inr rfl
theorem pows_fault (lo hi : Int) (p : List Int) (k : Nat) : (powsN lo hi p k).2.2 = 0 ∨ powsN lo hi p k = (0, 0, 4) := by
  cases k with
  | zero => exact .inl rfl
  | succ k => exact pstep_fault _ _ _ _ _
theorem pows_stay {lo hi : Int} {p : List Int} {k : Nat} (h : ¬ (powsN lo hi p k).2.2 = 0) : ∀ m, powsN lo hi p (k + m) = (0, 0, 4)
  | 0 => (pows_fault lo hi p k).resolve_left h
  | m + 1 => by
    have i := pows_stay h m
    show pstep lo hi (powsN lo hi p (k + m)) _ _ = _
    rw [i]; rfl
theorem pows_chk {lo hi : Int} (hc : chk lo hi = 0) (p : List Int) : ∀ (k : Nat), k ≤ 5 → (powsN lo hi p k).2.2 = 0 → chk (powsN lo hi p k).1 (powsN lo hi p k).2.1 = 0
  | 0, _, _ => by show chk 0 0 = 0; decide
  | k + 1, hk, h => by
    have h' : (pstep lo hi (powsN lo hi p k) (p.getD k 0) k).2.2 = 0 := h
    obtain ⟨g1, g2, g3, g4, e⟩ := pstep_ok h'
    have i := pows_chk hc p k (by omega) g1
    have j := pow_chk hc (by omega : k ≤ 4) g2
    have t := stimes_chk (Int.le_refl _) (chk_ok.1 j).2.2 g3
    rw [pows_succ, e]
    exact add_chk (chk_ok.1 i).2.2 (chk_ok.1 t).2.2 g4
/-- At each number of a span, by powers: so many terms. -/
theorem pows_has {lo hi n : Int} (hc : chk lo hi = 0) (h1 : lo ≤ n) (h2 : n ≤ hi) (p : List Int) : ∀ (k : Nat), k ≤ 5 → (powsN lo hi p k).2.2 = 0 →
    (powsN lo hi p k).1 * 1000000000000 ≤ exN n p k ∧ exN n p k ≤ (powsN lo hi p k).2.1 * 1000000000000
  | 0, _, _ => by show (0 : Int) * 1000000000000 ≤ 0 ∧ (0 : Int) ≤ 0 * 1000000000000; decide
  | k + 1, hk, h => by
    have h' : (pstep lo hi (powsN lo hi p k) (p.getD k 0) k).2.2 = 0 := h
    obtain ⟨g1, g2, g3, g4, e⟩ := pstep_ok h'
    obtain ⟨i1, i2⟩ := pows_has hc h1 h2 p k (by omega) g1
    obtain ⟨j1, j2⟩ := pow_has hc h1 h2 (by omega : k ≤ 4) g2
    have z := pow_nonneg k
    rw [pows_succ, e, (add_is g4).1]
    have ex : exN n p (k + 1) = exN n p k + p.getD k 0 * n ^ k * 1000 ^ (4 - k) := rfl
    rw [ex]
    clear ex
    have hs : stimesR (p.getD k 0) (p.getD k 0) (powR lo hi k).1 (powR lo hi k).2.1 = stimesR (powR lo hi k).1 (powR lo hi k).2.1 (p.getD k 0) (p.getD k 0) := by
      unfold stimesR mn4 mx4
      rw [Int.mul_comm (powR lo hi k).1, Int.mul_comm (powR lo hi k).2.1]
      congr 2 <;> omega
    rw [hs] at g3 ⊢
    obtain ⟨t1, t2⟩ := stimes_by z j1 j2 (Int.le_refl _) (Int.le_refl _) g3
    generalize stimesR (powR lo hi k).1 (powR lo hi k).2.1 (p.getD k 0) (p.getD k 0) = T at *
    generalize p.getD k 0 = c at *
    generalize powsN lo hi p k = S at *
    generalize exN n p k = E at *
    have z4 : (0 : Int) ≤ 1000 ^ (4 - k) := pow_nonneg _
    have e4 : (1000 : Int) ^ k * 1000 ^ (4 - k) = 1000000000000 := by
      rw [← Int.pow_add, show k + (4 - k) = 4 by omega]; decide
    have u1 := Int.mul_le_mul_of_nonneg_right t1 z4
    have u2 := Int.mul_le_mul_of_nonneg_right t2 z4
    have r1 : ∀ q : Int, q * (1000 * 1000 ^ k) * 1000 ^ (4 - k) = 1000 * (q * 1000000000000) := fun q => by
      rw [← e4]; generalize (1000 : Int) ^ k = A; generalize (1000 : Int) ^ (4 - k) = B; grind
    have r2 : 1000 * n ^ k * c * 1000 ^ (4 - k) = 1000 * (c * n ^ k * 1000 ^ (4 - k)) := by grind
    rw [r1, r2] at u1 u2
    generalize c * n ^ k * 1000 ^ (4 - k) = X at *
    show (S.1 + T.1) * 1000000000000 ≤ E + X ∧ E + X ≤ (S.2.1 + T.2.1) * 1000000000000
    omega
theorem pows_value {lo hi n : Int} {p : List Int} (hc : chk lo hi = 0) (h5 : p.length ≤ 5) (h1 : lo ≤ n) (h2 : n ≤ hi) (h : (powsN lo hi p p.length).2.2 = 0) :
    (powsN lo hi p p.length).1 ≤ fl (exN n p p.length) 1000000000000 ∧ ce (exN n p p.length) 1000000000000 ≤ (powsN lo hi p p.length).2.1 := by
  obtain ⟨j1, j2⟩ := pows_has hc h1 h2 p p.length h5 h
  exact ⟨low_by (by decide) j1, high_by (by decide) j2⟩

/-- What does not hang on it does not. -/
theorem flat {lo hi n : Int} (hm : may n = true) : powsN lo hi [n] 1 = (n, n, 0) := by
  have m := (may_iff n).1 hm
  have e1 : fl (n * 1000) 1000 = n := by rw [fl_pos (by decide)]; omega
  have e2 : ce (n * 1000) 1000 = n := by rw [ce_pos (by decide)]; omega
  have e : stimesR n n 1000 1000 = (n, n, 0) := by
    unfold stimesR mn4 mx4
    rw [show min (min (min (n * 1000) (n * 1000)) (n * 1000)) (n * 1000) = n * 1000 by omega, show max (max (max (n * 1000) (n * 1000)) (n * 1000)) (n * 1000) = n * 1000 by omega, e1, e2]
    unfold fit; rw [if_pos ⟨hm, hm⟩]
  show pstep lo hi (0, 0, 0) n 0 = _
  unfold pstep
  rw [pow_zero]
  simp only [e]
  rw [if_pos trivial, if_pos trivial, if_pos trivial]
  unfold addR fit
  rw [Int.zero_add, if_pos ⟨hm, hm⟩]
/-- The bounds of what a small one is. -/
theorem ex_small {n : Int} {p : List Int} (h5 : p.length ≤ 5) (hp : ∀ c ∈ p, -5000 ≤ c ∧ c ≤ 5000) (h1 : -5000 ≤ n) (h2 : n ≤ 5000) : ∀ k, k ≤ p.length → (exN n p k).natAbs ≤ 5000000000000000 * (if k = 0 then 0 else if k = 1 then 1 else if k = 2 then 6 else if k = 3 then 31 else if k = 4 then 156 else 781)
  | 0, _ => by simp [exN]
  | k + 1, hk => by
    have i := ex_small h5 hp h1 h2 k (by omega)
    have hc : (p.getD k 0).natAbs ≤ 5000 := by
      have := hp (p.getD k 0) (by rw [List.getD_eq_getElem?_getD, List.getElem?_eq_getElem (by omega)]; exact List.getElem_mem _)
      omega
    have hn : ∀ m, (n ^ m).natAbs ≤ 5000 ^ m := fun m => by
      rw [Int.natAbs_pow]; exact Nat.pow_le_pow_left (by omega) m
    have e : (p.getD k 0 * n ^ k * 1000 ^ (4 - k)).natAbs ≤ 5000 * 5000 ^ k * 1000 ^ (4 - k) := by
      rw [Int.natAbs_mul, Int.natAbs_mul]
      exact Nat.mul_le_mul (Nat.mul_le_mul hc (hn k)) (by rw [Int.natAbs_pow]; exact Nat.le_refl _)
    show (exN n p k + p.getD k 0 * n ^ k * 1000 ^ (4 - k)).natAbs ≤ _
    have a := Int.natAbs_add_le (exN n p k) (p.getD k 0 * n ^ k * 1000 ^ (4 - k))
    rcases (by omega : k = 0 ∨ k = 1 ∨ k = 2 ∨ k = 3 ∨ k = 4) with rfl | rfl | rfl | rfl | rfl
    all_goals simp at i e a ⊢
    all_goals omega
end Um
