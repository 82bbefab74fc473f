/-
  Plain arithmetic of Newton's steps as the code makes them, no program: how far away, and a step.
-/
import Derived.Test.YthebaldogelhlaaDoorMaths
namespace Um
set_option linter.unusedSimpArgs false

theorem sby_chk {al ah bl bh : Int} (hb : bl ≤ bh) (h : (sbyR al ah bl bh).2.2 = 0) : chk (sbyR al ah bl bh).1 (sbyR al ah bl bh).2.1 = 0 := by
  unfold sbyR at h ⊢
  by_cases hz : bl ≤ 0 ∧ 0 ≤ bh
  · rw [if_pos hz] at h; exact absurd h (by decide)
  rw [if_neg hz] at h ⊢
  have hl : fl (al * 1000) bl ≤ ce (al * 1000) bl := (fl_le_ce _ bl (by omega)).1
  obtain ⟨q0, -, -, -⟩ := mn4_le (fl (al * 1000) bl) (fl (al * 1000) bh) (fl (ah * 1000) bl) (fl (ah * 1000) bh)
  obtain ⟨p0, -, -, -⟩ := le_mx4 (ce (al * 1000) bl) (ce (al * 1000) bh) (ce (ah * 1000) bl) (ce (ah * 1000) bh)
  generalize mn4 (fl (al * 1000) bl) (fl (al * 1000) bh) (fl (ah * 1000) bl) (fl (ah * 1000) bh) = q at *
  generalize mx4 (ce (al * 1000) bl) (ce (al * 1000) bh) (ce (ah * 1000) bl) (ce (ah * 1000) bh) = p at *
  rcases fit_cases q p with e | ⟨e, m1, m2⟩
  · rw [e] at h; exact absurd h (by decide)
  · rw [e]; exact chk_ok.2 ⟨m1, m2, by show q ≤ p; omega⟩

/-- How far below a number of the span a root may be; the fault. -/
def awayR (lo hi : Int) (p : List Int) (m : Int) : Int × Int × Int :=
  if (hornR m m p).2.2 = 0 then (if (slopeR lo hi p).2.2 = 0 then sbyR (hornR m m p).1 (hornR m m p).2.1 (slopeR lo hi p).1 (slopeR lo hi p).2.1 else (0, 0, 4)) else (0, 0, 4)
theorem away_code {lo hi m : Int} {p : List Int} (ho : over p lo hi = 0) :
    awayR lo hi p m = if (hornR m m p).2.2 = 0 then (if (slopeR lo hi p).2.2 = 0 then made (sbyR (hornR m m p).1 (hornR m m p).2.1 (slopeR lo hi p).1 (slopeR lo hi p).2.1) (hornR m m p).1 (hornR m m p).2.1 (slopeR lo hi p).1 (slopeR lo hi p).2.1 else (0, 0, (slopeR lo hi p).2.2)) else (0, 0, (hornR m m p).2.2) := by
  obtain ⟨hp, hc⟩ := over_ok.1 ho
  have hp' := pchk_ok.1 hp
  have hl := (chk_ok.1 hc).2.2
  unfold awayR
  by_cases h1 : (hornR m m p).2.2 = 0
  · rw [if_pos h1, if_pos h1]
    by_cases h2 : (slopeR lo hi p).2.2 = 0
    · rw [if_pos h2, if_pos h2, made_good (horn_chk (Int.le_refl _) p hp'.1 hp'.2.2 h1) (slope_chk hl h2)]
    · rw [if_neg h2, if_neg h2, (slope_fault lo hi p).resolve_left h2]
  · rw [if_neg h1, if_neg h1, (horn_fault m m p).resolve_left h1]
theorem away_fault (lo hi m : Int) (p : List Int) : (awayR lo hi p m).2.2 = 0 ∨ awayR lo hi p m = (0, 0, (awayR lo hi p m).2.2) := by
  unfold awayR
  split
  · split
    · rcases sby_fault (hornR m m p).1 (hornR m m p).2.1 (slopeR lo hi p).1 (slopeR lo hi p).2.1 with e | e | e
      · exact .inl e
      · rw [e]; exact .inr rfl
      · rw [e]; exact .inr rfl
    · exact .inr rfl
  · exact .inr rfl
theorem away_chk {lo hi m : Int} {p : List Int} (hl : lo ≤ hi) (h : (awayR lo hi p m).2.2 = 0) : chk (awayR lo hi p m).1 (awayR lo hi p m).2.1 = 0 := by
  unfold awayR at h ⊢
  by_cases h1 : (hornR m m p).2.2 = 0
  · rw [if_pos h1] at h ⊢
    by_cases h2 : (slopeR lo hi p).2.2 = 0
    · rw [if_pos h2] at h ⊢
      exact sby_chk (chk_ok.1 (slope_chk hl h2)).2.2 h
    · rw [if_neg h2] at h; exact absurd h (by decide)
  · rw [if_neg h1] at h; exact absurd h (by decide)
theorem newt_away (lo hi : Int) (p : List Int) {A : Int × Int × Int} (eA : awayR lo hi p (midR lo hi) = A) :
    newtR lo hi p = if A.2.2 = 0 then (if (lessR (midR lo hi) (midR lo hi) A.1 A.2.1).2.2 = 0 then meetR (lessR (midR lo hi) (midR lo hi) A.1 A.2.1).1 (lessR (midR lo hi) (midR lo hi) A.1 A.2.1).2.1 lo hi else (0, 0, 4)) else (0, 0, A.2.2) := by
  subst eA
  unfold newtR awayR
  by_cases h1 : (hornR (midR lo hi) (midR lo hi) p).2.2 = 0
  · rw [if_pos h1, if_pos h1]
    by_cases h2 : (slopeR lo hi p).2.2 = 0
    · rw [if_pos h2, if_pos h2]
    · rw [if_neg h2, if_neg h2]; rfl
  · rw [if_neg h1, if_neg h1]; rfl
theorem less_right {al ah bl bh : Int} (h1 : al ≤ ah) (h2 : bl ≤ bh) (h : (lessR al ah bl bh).2.2 = 0) : chk (lessR al ah bl bh).1 (lessR al ah bl bh).2.1 = 0 := by
  obtain ⟨e, m1, m2⟩ := less_is h
  rw [e]; exact chk_ok.2 ⟨m1, m2, by show al - bh ≤ ah - bl; omega⟩
theorem newt_code {lo hi : Int} {p : List Int} (ho : over p lo hi = 0) {A S : Int × Int × Int} (eA : awayR lo hi p (midR lo hi) = A)
    (eS : made (lessR (midR lo hi) (midR lo hi) A.1 A.2.1) (midR lo hi) (midR lo hi) A.1 A.2.1 = S) :
    newtR lo hi p = if A.2.2 = 0 then (if S.2.2 = 0 then made (meetR S.1 S.2.1 lo hi) S.1 S.2.1 lo hi else (0, 0, S.2.2)) else (0, 0, A.2.2) := by
  obtain ⟨hp, hc⟩ := over_ok.1 ho
  have hl := (chk_ok.1 hc).2.2
  have hm := chk_alone (mid_may hc)
  rw [newt_away lo hi p eA]
  by_cases h1 : A.2.2 = 0
  · rw [if_pos h1, if_pos h1]
    have cA : chk A.1 A.2.1 = 0 := by rw [← eA]; exact away_chk hl (by rw [eA]; exact h1)
    rw [made_good hm cA] at eS
    rw [eS]
    by_cases h2 : S.2.2 = 0
    · rw [if_pos h2, if_pos h2]
      have cS : chk S.1 S.2.1 = 0 := by rw [← eS]; exact less_right (Int.le_refl _) (chk_ok.1 cA).2.2 (by rw [eS]; exact h2)
      rw [made_good cS hc]
    · rw [if_neg h2, if_neg h2]
      have f := less_fault (midR lo hi) (midR lo hi) A.1 A.2.1
      rw [eS] at f
      rw [f.resolve_left h2]
  · rw [if_neg h1, if_neg h1]
/-- Where a step tells a fault, or changes nothing, so many do. -/
theorem run_bad {lo hi : Int} {p : List Int} {k n : Nat} (hk : k < n) (h0 : (stR lo hi p k).2.2 = 0) (h : ¬ (newtR (stR lo hi p k).1 (stR lo hi p k).2.1 p).2.2 = 0) :
    stR lo hi p n = (0, 0, (newtR (stR lo hi p k).1 (stR lo hi p k).2.1 p).2.2) := by
  have e : stR lo hi p (k + 1) = newtR (stR lo hi p k).1 (stR lo hi p k).2.1 p := by rw [st_succ, if_pos h0]
  obtain ⟨j, rfl⟩ : ∃ j, n = k + 1 + j := ⟨n - (k + 1), by omega⟩
  rw [st_stay (by rw [e]; exact h) j, e]
  obtain ⟨a, b⟩ := (newt_fault (stR lo hi p k).1 (stR lo hi p k).2.1 p).resolve_left h
  exact Prod.ext a (Prod.ext b rfl)
theorem run_same {lo hi : Int} {p : List Int} {k n : Nat} (hk : k < n) (h0 : (stR lo hi p k).2.2 = 0) (h : newtR (stR lo hi p k).1 (stR lo hi p k).2.1 p = ((stR lo hi p k).1, (stR lo hi p k).2.1, 0)) :
    stR lo hi p n = ((stR lo hi p k).1, (stR lo hi p k).2.1, 0) := by
  have e : stR lo hi p k = ((stR lo hi p k).1, (stR lo hi p k).2.1, 0) := Prod.ext rfl (Prod.ext rfl h0)
  obtain ⟨j, rfl⟩ : ∃ j, n = k + j := ⟨n - k, by omega⟩
  rw [st_same (h.trans e.symm) h0 j]
  exact e
end Um
