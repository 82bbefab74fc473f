/-
  Plain arithmetic of ranges from the middle, no program: the slope over a span, the range from the middle, the best of three; that they have what the polynomial is, and so always meet.
-/
import Derived.Test.YtlddhapbnlmpiacDoorCmath
import Derived.Test.YtlddhapbnlmpiacDoorRmath
namespace Um
set_option linter.unusedSimpArgs false

def slopeR (lo hi : Int) (p : List Int) : Int × Int × Int := if (derR p).2 = 0 then hornR lo hi (ders p) else (0, 0, 4)
def slopeAll (p : List Int) (lo hi : Int) : Int × Int × Int := if over p lo hi = 0 then slopeR lo hi p else (0, 0, over p lo hi)
/-- How much it may be other than at m. -/
def chgR (lo hi : Int) (p : List Int) (m : Int) : Int × Int × Int :=
  if (slopeR lo hi p).2.2 = 0 then (if (lessR lo hi m m).2.2 = 0 then stimesR (slopeR lo hi p).1 (slopeR lo hi p).2.1 (lessR lo hi m m).1 (lessR lo hi m m).2.1 else (0, 0, 4)) else (0, 0, 4)
def centR (lo hi : Int) (p : List Int) : Int × Int × Int :=
  if (hornR (midR lo hi) (midR lo hi) p).2.2 = 0 then (if (chgR lo hi p (midR lo hi)).2.2 = 0 then addR (hornR (midR lo hi) (midR lo hi) p).1 (hornR (midR lo hi) (midR lo hi) p).2.1 (chgR lo hi p (midR lo hi)).1 (chgR lo hi p (midR lo hi)).2.1 else (0, 0, 4)) else (0, 0, 4)
def centAll (p : List Int) (lo hi : Int) : Int × Int × Int := if over p lo hi = 0 then centR lo hi p else (0, 0, over p lo hi)
def bestR (lo hi : Int) (p : List Int) : Int × Int × Int :=
  if (hornR lo hi p).2.2 = 0 then (if (powsN lo hi p p.length).2.2 = 0 then (if (centR lo hi p).2.2 = 0 then
    (max (max (hornR lo hi p).1 (powsN lo hi p p.length).1) (centR lo hi p).1, min (min (hornR lo hi p).2.1 (powsN lo hi p p.length).2.1) (centR lo hi p).2.1, 0) else (0, 0, 4)) else (0, 0, 4)) else (0, 0, 4)
def bestAll (p : List Int) (lo hi : Int) : Int × Int × Int := if over p lo hi = 0 then bestR lo hi p else (0, 0, over p lo hi)

theorem ders_len (p : List Int) (h5 : p.length ≤ 5) : (ders p).length ≤ 5 := by
  by_cases h : 1 < p.length
  · rw [ders_length h]; omega
  · unfold ders; rw [if_pos (by omega)]; simp
theorem der_ok {p : List Int} (h : (derR p).2 = 0) : derR p = (ders p, 0) ∧ ∀ c ∈ ders p, may c = true := by
  unfold derR at h ⊢
  by_cases ha : (ders p).all may = true
  · rw [if_pos ha]; exact ⟨rfl, fun c hc => List.all_eq_true.1 ha c hc⟩
  · rw [if_neg ha] at h; exact absurd h (by decide)
theorem der_no {p : List Int} (h : ¬ (derR p).2 = 0) : derR p = ([], 4) := by
  unfold derR at h ⊢
  by_cases ha : (ders p).all may = true
  · rw [if_pos ha] at h; exact absurd rfl h
  · rw [if_neg ha]
theorem der_pchk {p : List Int} (hp : pchk p = 0) (h : (derR p).2 = 0) : pchk (ders p) = 0 :=
  pchk_ok.2 ⟨ders_some p, ders_len p (pchk_ok.1 hp).2.1, (der_ok h).2⟩
theorem slope_ok {lo hi : Int} {p : List Int} (h : (slopeR lo hi p).2.2 = 0) : (derR p).2 = 0 ∧ slopeR lo hi p = hornR lo hi (ders p) ∧ (hornR lo hi (ders p)).2.2 = 0 := by
  unfold slopeR at h ⊢
  by_cases hd : (derR p).2 = 0
  · rw [if_pos hd] at h ⊢; exact ⟨hd, rfl, h⟩
  · rw [if_neg hd] at h; exact absurd h (by decide)
theorem slope_fault (lo hi : Int) (p : List Int) : (slopeR lo hi p).2.2 = 0 ∨ slopeR lo hi p = (0, 0, 4) := by
  unfold slopeR
  by_cases hd : (derR p).2 = 0
  · rw [if_pos hd]; exact horn_fault _ _ _
  · rw [if_neg hd]; exact .inr rfl
theorem slope_chk {lo hi : Int} {p : List Int} (hl : lo ≤ hi) (h : (slopeR lo hi p).2.2 = 0) : chk (slopeR lo hi p).1 (slopeR lo hi p).2.1 = 0 := by
  obtain ⟨hd, e, h2⟩ := slope_ok h
  rw [e]
  exact horn_chk hl _ (ders_some p) (der_ok hd).2 h2
/-- The slope, as the code makes it: Horner of what Derive tells. -/
theorem slope_code {p : List Int} {lo hi : Int} (ho : over p lo hi = 0) (h : (derR p).2 = 0) : hornAll (derR p).1 lo hi = slopeR lo hi p := by
  have h1 := over_ok.1 ho
  unfold slopeR hornAll
  rw [if_pos h, (der_ok h).1, if_pos (over_ok.2 ⟨der_pchk h1.1 h, h1.2⟩)]
theorem less_is {al ah bl bh : Int} (h : (lessR al ah bl bh).2.2 = 0) : lessR al ah bl bh = (al - bh, ah - bl, 0) ∧ may (al - bh) = true ∧ may (ah - bl) = true := by
  unfold lessR at h ⊢
  rcases fit_cases (al - bh) (ah - bl) with e | ⟨e, m⟩
  · rw [e] at h; exact absurd h (by decide)
  · exact ⟨e, m⟩
theorem less_fault (al ah bl bh : Int) : (lessR al ah bl bh).2.2 = 0 ∨ lessR al ah bl bh = (0, 0, 4) := by
  unfold lessR
  rcases fit_cases (al - bh) (ah - bl) with e | ⟨e, _⟩
  · exact .inr e
  · rw [e]; exact .inl rfl
theorem less_chk {lo hi m : Int} (hl : lo ≤ hi) (h : (lessR lo hi m m).2.2 = 0) : chk (lessR lo hi m m).1 (lessR lo hi m m).2.1 = 0 := by
  obtain ⟨e, m1, m2⟩ := less_is h
  rw [e]; exact chk_ok.2 ⟨m1, m2, by show lo - m ≤ hi - m; omega⟩
theorem chg_ok {lo hi m : Int} {p : List Int} (h : (chgR lo hi p m).2.2 = 0) : (slopeR lo hi p).2.2 = 0 ∧ (lessR lo hi m m).2.2 = 0 ∧
    chgR lo hi p m = stimesR (slopeR lo hi p).1 (slopeR lo hi p).2.1 (lessR lo hi m m).1 (lessR lo hi m m).2.1 ∧ (stimesR (slopeR lo hi p).1 (slopeR lo hi p).2.1 (lessR lo hi m m).1 (lessR lo hi m m).2.1).2.2 = 0 := by
  unfold chgR at h ⊢
  by_cases h1 : (slopeR lo hi p).2.2 = 0
  · rw [if_pos h1] at h ⊢
    by_cases h2 : (lessR lo hi m m).2.2 = 0
    · rw [if_pos h2] at h ⊢; exact ⟨h1, h2, rfl, h⟩
    · rw [if_neg h2] at h; exact absurd h (by decide)
  · rw [if_neg h1] at h; exact absurd h (by decide)
theorem chg_fault (lo hi : Int) (p : List Int) (m : Int) : (chgR lo hi p m).2.2 = 0 ∨ chgR lo hi p m = (0, 0, 4) := by
  unfold chgR
  by_cases h1 : (slopeR lo hi p).2.2 = 0
  · rw [if_pos h1]
    by_cases h2 : (lessR lo hi m m).2.2 = 0
    · rw [if_pos h2]; exact stimes_fault _ _ _ _
    · rw [if_neg h2]; exact .inr rfl
  · rw [if_neg h1]; exact .inr rfl
theorem chg_chk {lo hi m : Int} {p : List Int} (hl : lo ≤ hi) (h : (chgR lo hi p m).2.2 = 0) : chk (chgR lo hi p m).1 (chgR lo hi p m).2.1 = 0 := by
  obtain ⟨h1, h2, e, h3⟩ := chg_ok h
  rw [e]
  exact stimes_chk (chk_ok.1 (slope_chk hl h1)).2.2 (chk_ok.1 (less_chk hl h2)).2.2 h3
/-- As the code makes it, whatever comes in. -/
theorem chg_code {lo hi m : Int} {p : List Int} (hc : chk lo hi = 0) (hm : may m = true) :
    (if (slopeR lo hi p).2.2 = 0 then (if (made (lessR lo hi m m) lo hi m m).2.2 = 0 then made (stimesR (slopeR lo hi p).1 (slopeR lo hi p).2.1 (made (lessR lo hi m m) lo hi m m).1 (made (lessR lo hi m m) lo hi m m).2.1) (slopeR lo hi p).1 (slopeR lo hi p).2.1 (made (lessR lo hi m m) lo hi m m).1 (made (lessR lo hi m m) lo hi m m).2.1 else (0, 0, (made (lessR lo hi m m) lo hi m m).2.2)) else (0, 0, (slopeR lo hi p).2.2)) = chgR lo hi p m := by
  have hl := (chk_ok.1 hc).2.2
  rw [made_good hc (chk_alone hm)]
  unfold chgR
  by_cases h1 : (slopeR lo hi p).2.2 = 0
  · rw [if_pos h1, if_pos h1]
    by_cases h2 : (lessR lo hi m m).2.2 = 0
    · rw [if_pos h2, if_pos h2, made_good (slope_chk hl h1) (less_chk hl h2)]
    · rw [if_neg h2, if_neg h2, (less_fault lo hi m m).resolve_left h2]
  · rw [if_neg h1, if_neg h1, (slope_fault lo hi p).resolve_left h1]
theorem mid_may {lo hi : Int} (hc : chk lo hi = 0) : may (midR lo hi) = true := by
  obtain ⟨h1, h2, h3⟩ := chk_ok.1 hc
  have a := (may_iff lo).1 h1
  have b := (may_iff hi).1 h2
  have c := mid_has h3
  exact (may_iff _).2 ⟨by omega, by omega⟩
theorem cent_ok {lo hi : Int} {p : List Int} (h : (centR lo hi p).2.2 = 0) : (hornR (midR lo hi) (midR lo hi) p).2.2 = 0 ∧ (chgR lo hi p (midR lo hi)).2.2 = 0 ∧
    centR lo hi p = addR (hornR (midR lo hi) (midR lo hi) p).1 (hornR (midR lo hi) (midR lo hi) p).2.1 (chgR lo hi p (midR lo hi)).1 (chgR lo hi p (midR lo hi)).2.1 ∧
    (addR (hornR (midR lo hi) (midR lo hi) p).1 (hornR (midR lo hi) (midR lo hi) p).2.1 (chgR lo hi p (midR lo hi)).1 (chgR lo hi p (midR lo hi)).2.1).2.2 = 0 := by
  unfold centR at h ⊢
  by_cases h1 : (hornR (midR lo hi) (midR lo hi) p).2.2 = 0
  · rw [if_pos h1] at h ⊢
    by_cases h2 : (chgR lo hi p (midR lo hi)).2.2 = 0
    · rw [if_pos h2] at h ⊢; exact ⟨h1, h2, rfl, h⟩
    · rw [if_neg h2] at h; exact absurd h (by decide)
  · rw [if_neg h1] at h; exact absurd h (by decide)
theorem cent_fault (lo hi : Int) (p : List Int) : (centR lo hi p).2.2 = 0 ∨ centR lo hi p = (0, 0, 4) := by
  unfold centR
  by_cases h1 : (hornR (midR lo hi) (midR lo hi) p).2.2 = 0
  · rw [if_pos h1]
    by_cases h2 : (chgR lo hi p (midR lo hi)).2.2 = 0
    · rw [if_pos h2]; exact add_fault _ _ _ _
    · rw [if_neg h2]; exact .inr rfl
  · rw [if_neg h1]; exact .inr rfl
theorem cent_chk {lo hi : Int} {p : List Int} (ho : over p lo hi = 0) (h : (centR lo hi p).2.2 = 0) : chk (centR lo hi p).1 (centR lo hi p).2.1 = 0 := by
  obtain ⟨hp, hc⟩ := over_ok.1 ho
  obtain ⟨h1, h2, e, h3⟩ := cent_ok h
  have hp' := pchk_ok.1 hp
  rw [e]
  exact add_chk (chk_ok.1 (horn_chk (Int.le_refl _) p hp'.1 hp'.2.2 h1)).2.2 (chk_ok.1 (chg_chk (chk_ok.1 hc).2.2 h2)).2.2 h3
/-- What it is is in the range from the middle. -/
theorem cent_value {lo hi n : Int} {p : List Int} (ho : over p lo hi = 0) (hn1 : lo ≤ n) (hn2 : n ≤ hi) (h : (centR lo hi p).2.2 = 0) :
    (centR lo hi p).1 ≤ fl (exN n p p.length) 1000000000000 ∧ ce (exN n p p.length) 1000000000000 ≤ (centR lo hi p).2.1 := by
  obtain ⟨hp, hc⟩ := over_ok.1 ho
  have hp' := pchk_ok.1 hp
  have hl := (chk_ok.1 hc).2.2
  obtain ⟨h1, h2, e, h3⟩ := cent_ok h
  obtain ⟨s1, s2, e2, s3⟩ := chg_ok h2
  obtain ⟨d1, e3, d2⟩ := slope_ok s1
  have hm := mid_has hl
  have hv := horn_value hp'.1 hp'.2.1 (Int.le_refl (midR lo hi)) (Int.le_refl _) h1
  have f1 := fl_spec_pos (n := exN (midR lo hi) p p.length) (d := 1000000000000) (by decide)
  have f2 := ce_spec_pos (n := exN (midR lo hi) p p.length) (d := 1000000000000) (by decide)
  obtain ⟨e4, _, _⟩ := less_is s2
  rw [e, (add_is h3).1, e2]
  rw [e3, e4] at s3 ⊢
  have k := center_has (n := n) (m := midR lo hi) (al := (hornR (midR lo hi) (midR lo hi) p).1) (ah := (hornR (midR lo hi) (midR lo hi) p).2.1) (fl' := lo - midR lo hi) (fh := hi - midR lo hi)
    hp'.1 hp'.2.1 hn1 hn2 hm.1 hm.2.1 d2 (by omega) (by omega) (by omega) (by omega) s3
  exact ⟨low_by (by decide) k.1, high_by (by decide) k.2⟩
/-- All three have what it is at an end, so they meet. -/
theorem best_meets {lo hi : Int} {p : List Int} (ho : over p lo hi = 0) (h1 : (hornR lo hi p).2.2 = 0) (h2 : (powsN lo hi p p.length).2.2 = 0) :
    max (hornR lo hi p).1 (powsN lo hi p p.length).1 ≤ min (hornR lo hi p).2.1 (powsN lo hi p p.length).2.1 ∧
    ((centR lo hi p).2.2 = 0 → max (max (hornR lo hi p).1 (powsN lo hi p p.length).1) (centR lo hi p).1 ≤ min (min (hornR lo hi p).2.1 (powsN lo hi p p.length).2.1) (centR lo hi p).2.1) := by
  obtain ⟨hp, hc⟩ := over_ok.1 ho
  have hp' := pchk_ok.1 hp
  have hl := (chk_ok.1 hc).2.2
  have a := horn_value hp'.1 hp'.2.1 (Int.le_refl lo) hl h1
  have b := pows_value hc hp'.2.1 (Int.le_refl lo) hl h2
  have f := (fl_le_ce (exN lo p p.length) 1000000000000 (by decide)).1
  refine ⟨by omega, fun h3 => ?_⟩
  have c := cent_value ho (Int.le_refl lo) hl h3
  omega
theorem best_ok {lo hi : Int} {p : List Int} (h : (bestR lo hi p).2.2 = 0) : (hornR lo hi p).2.2 = 0 ∧ (powsN lo hi p p.length).2.2 = 0 ∧ (centR lo hi p).2.2 = 0 ∧
    bestR lo hi p = (max (max (hornR lo hi p).1 (powsN lo hi p p.length).1) (centR lo hi p).1, min (min (hornR lo hi p).2.1 (powsN lo hi p p.length).2.1) (centR lo hi p).2.1, 0) := by
  unfold bestR at h ⊢
  by_cases h1 : (hornR lo hi p).2.2 = 0
  · rw [if_pos h1] at h ⊢
    by_cases h2 : (powsN lo hi p p.length).2.2 = 0
    · rw [if_pos h2] at h ⊢
      by_cases h3 : (centR lo hi p).2.2 = 0
      · rw [if_pos h3]; exact ⟨h1, h2, h3, rfl⟩
      · rw [if_neg h3] at h; exact absurd h (by decide)
    · rw [if_neg h2] at h; exact absurd h (by decide)
  · rw [if_neg h1] at h; exact absurd h (by decide)
theorem best_fault (lo hi : Int) (p : List Int) : (bestR lo hi p).2.2 = 0 ∨ bestR lo hi p = (0, 0, 4) := by
  unfold bestR
  split
  · split
    · split
      · exact .inl rfl
      · exact .inr rfl
    · exact .inr rfl
  · exact .inr rfl
/-- At one number the range from the middle is the range. -/
theorem cent_point {n : Int} {p : List Int} (ho : over p n n = 0) (h : (centR n n p).2.2 = 0) : centR n n p = hornR n n p := by
  obtain ⟨hp, hc⟩ := over_ok.1 ho
  have hp' := pchk_ok.1 hp
  obtain ⟨h1, h2, e, h3⟩ := cent_ok h
  obtain ⟨s1, s2, e2, s3⟩ := chg_ok h2
  have em : midR n n = n := by
    have := mid_has (Int.le_refl n)
    omega
  rw [em] at h1 h2 e h3 e2 s2 s3
  have hk := horn_chk (Int.le_refl n) p hp'.1 hp'.2.2 h1
  have z : (lessR n n n n) = (0, 0, 0) := by
    rw [(less_is s2).1, Int.sub_self]
  rw [z] at e2
  have ez : ∀ a b : Int, stimesR a b 0 0 = (0, 0, 0) := fun a b => by
    unfold stimesR mn4 mx4
    rw [Int.mul_zero, Int.mul_zero]
    decide +kernel
  rw [e, e2]
  show addR (hornR n n p).1 (hornR n n p).2.1 (stimesR (slopeR n n p).1 (slopeR n n p).2.1 0 0).1 (stimesR (slopeR n n p).1 (slopeR n n p).2.1 0 0).2.1 = hornR n n p
  rw [ez]
  obtain ⟨m1, m2, _⟩ := chk_ok.1 hk
  unfold addR fit
  rw [Int.add_zero, Int.add_zero, if_pos ⟨m1, m2⟩]
  generalize hornR n n p = R at *
  obtain ⟨a, b, c⟩ := R
  simp only at h1
  subst h1
  rfl
end Um
