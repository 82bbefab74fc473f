/-
  Plain arithmetic of polynomials of one unknown, no program: what is wrong with one; its range over a span from the last factor on, and by powers; its slope; what it is at a number of the span is in both ranges.
-/
import Derived.Test.YtlddhapbnlmpiabDoorPmath
namespace Um
set_option linter.unusedSimpArgs false

/-- Corners, of what lies between two by so many parts. -/
theorem corners_by {al ah bl bh V n D : Int} (hD : 0 ≤ D) (h1 : al * D ≤ V) (h2 : V ≤ ah * D) (h3 : bl ≤ n) (h4 : n ≤ bh) :
    mn4 (al * bl) (al * bh) (ah * bl) (ah * bh) * D ≤ V * n ∧ V * n ≤ mx4 (al * bl) (al * bh) (ah * bl) (ah * bh) * D := by
  obtain ⟨q0, q1, q2, q3⟩ := mn4_le (al * bl) (al * bh) (ah * bl) (ah * bh)
  obtain ⟨p0, p1, p2, p3⟩ := le_mx4 (al * bl) (al * bh) (ah * bl) (ah * bh)
  generalize mn4 (al * bl) (al * bh) (ah * bl) (ah * bh) = m at *
  generalize mx4 (al * bl) (al * bh) (ah * bl) (ah * bh) = x at *
  have e : ∀ a b : Int, b * (a * D) = a * b * D := fun a b => by rw [← Int.mul_assoc, Int.mul_comm b a]
  constructor
  · refine le_lin h3 h4 ?_ ?_
    · rw [Int.mul_comm V]; refine le_lin h1 h2 ?_ ?_ <;> rw [e]
      · exact Int.mul_le_mul_of_nonneg_right q0 hD
      · exact Int.mul_le_mul_of_nonneg_right q2 hD
    · rw [Int.mul_comm V]; refine le_lin h1 h2 ?_ ?_ <;> rw [e]
      · exact Int.mul_le_mul_of_nonneg_right q1 hD
      · exact Int.mul_le_mul_of_nonneg_right q3 hD
  · refine lin_le h3 h4 ?_ ?_
    · rw [Int.mul_comm V]; refine lin_le h1 h2 ?_ ?_ <;> rw [e]
      · exact Int.mul_le_mul_of_nonneg_right p0 hD
      · exact Int.mul_le_mul_of_nonneg_right p2 hD
    · rw [Int.mul_comm V]; refine lin_le h1 h2 ?_ ?_ <;> rw [e]
      · exact Int.mul_le_mul_of_nonneg_right p1 hD
      · exact Int.mul_le_mul_of_nonneg_right p3 hD
theorem stimes_fault (al ah bl bh : Int) : (stimesR al ah bl bh).2.2 = 0 ∨ stimesR al ah bl bh = (0, 0, 4) := by
  unfold stimesR
  rcases fit_cases (fl (mn4 (al * bl) (al * bh) (ah * bl) (ah * bh)) 1000) (ce (mx4 (al * bl) (al * bh) (ah * bl) (ah * bh)) 1000) with e | ⟨e, _⟩
  · exact .inr e
  · rw [e]; exact .inl rfl
theorem add_fault (al ah bl bh : Int) : (addR al ah bl bh).2.2 = 0 ∨ addR al ah bl bh = (0, 0, 4) := by
  unfold addR
  rcases fit_cases (al + bl) (ah + bh) with e | ⟨e, _⟩
  · exact .inr e
  · rw [e]; exact .inl rfl
theorem add_is {al ah bl bh : Int} (h : (addR al ah bl bh).2.2 = 0) : addR al ah bl bh = (al + bl, ah + bh, 0) ∧ may (al + bl) = true ∧ may (ah + bh) = true := by
  unfold addR at h ⊢
  rcases fit_cases (al + bl) (ah + bh) with e | ⟨e, m⟩
  · rw [e] at h; exact absurd h (by decide)
  · exact ⟨e, m⟩
theorem stimes_by {al ah bl bh V n D : Int} (hD : 0 ≤ D) (h1 : al * D ≤ V) (h2 : V ≤ ah * D) (h3 : bl ≤ n) (h4 : n ≤ bh) (h : (stimesR al ah bl bh).2.2 = 0) :
    (stimesR al ah bl bh).1 * (1000 * D) ≤ V * n ∧ V * n ≤ (stimesR al ah bl bh).2.1 * (1000 * D) := by
  have hc := corners_by hD h1 h2 h3 h4
  unfold stimesR at h ⊢
  generalize mn4 (al * bl) (al * bh) (ah * bl) (ah * bh) = mn at *
  generalize mx4 (al * bl) (al * bh) (ah * bl) (ah * bh) = mx at *
  have s1 := (fl_spec_pos (n := mn) (d := 1000) (by decide)).1
  have s2 := (ce_spec_pos (n := mx) (d := 1000) (by decide)).1
  rcases fit_cases (fl mn 1000) (ce mx 1000) with e | ⟨e, m1, m2⟩
  · rw [e] at h; exact absurd h (by decide)
  · rw [e]
    have t1 := Int.mul_le_mul_of_nonneg_right s1 hD
    have t2 := Int.mul_le_mul_of_nonneg_right s2 hD
    refine ⟨?_, ?_⟩
    · show fl mn 1000 * (1000 * D) ≤ V * n
      rw [← Int.mul_assoc, Int.mul_comm (fl mn 1000)]; exact Int.le_trans t1 hc.1
    · show V * n ≤ ce mx 1000 * (1000 * D)
      rw [← Int.mul_assoc, Int.mul_comm (ce mx 1000)]; exact Int.le_trans hc.2 t2
theorem stimes_chk {al ah bl bh : Int} (h1 : al ≤ ah) (h2 : bl ≤ bh) (h : (stimesR al ah bl bh).2.2 = 0) : chk (stimesR al ah bl bh).1 (stimesR al ah bl bh).2.1 = 0 := by
  obtain ⟨m1, m2, s1, s2⟩ := stimes_has (x := al) (y := bl) (Int.le_refl _) h1 (Int.le_refl _) h2 h
  exact chk_ok.2 ⟨m1, m2, by omega⟩
theorem add_chk {al ah bl bh : Int} (h1 : al ≤ ah) (h2 : bl ≤ bh) (h : (addR al ah bl bh).2.2 = 0) : chk (addR al ah bl bh).1 (addR al ah bl bh).2.1 = 0 := by
  obtain ⟨e, m1, m2⟩ := add_is h
  rw [e]; exact chk_ok.2 ⟨m1, m2, by show al + bl ≤ ah + bh; omega⟩
theorem pow_fault {lo hi : Int} (k : Nat) : (powR lo hi k).2.2 = 0 ∨ powR lo hi k = (0, 0, 4) := by
  have bf : ∀ a b : Int × Int × Int, (a.2.2 = 0 ∨ a.2.2 = 4) → (b.2.2 = 0 ∨ b.2.2 = 4) → (both a b).2.2 = 0 ∨ both a b = (0, 0, 4) := by
    intro a b ha hb
    unfold both
    by_cases h1 : a.2.2 = 0
    · rw [if_pos h1]
      by_cases h2 : b.2.2 = 0
      · rw [if_pos h2]; exact .inl rfl
      · rw [if_neg h2, hb.resolve_left h2]; exact .inr rfl
    · rw [if_neg h1, ha.resolve_left h1]; exact .inr rfl
  have af : ∀ n, (agR n k).2.2 = 0 ∨ (agR n k).2.2 = 4 := fun n => (ag_fault n k).imp id (fun h => by rw [h])
  have ef : ∀ n, (endR n k).2.2 = 0 ∨ (endR n k).2.2 = 4 := fun n => by
    unfold endR
    by_cases h : 0 ≤ n
    · rw [if_pos h]; exact af n
    · rw [if_neg h]; exact af (-n)
  unfold powR
  by_cases hk : k % 2 = 0
  · rw [if_pos hk]; exact bf _ _ (af _) (af _)
  · rw [if_neg hk]; exact bf _ _ (ef _) (ef _)

/-- What is wrong with a polynomial; with one, and a span. -/
def pchk (p : List Int) : Int := if p = [] then 5 else if 5 < p.length then 4 else if p.all may = true then 0 else 1
def over (p : List Int) (lo hi : Int) : Int := if pchk p = 0 then chk lo hi else pchk p
theorem pchk_ok {p : List Int} : pchk p = 0 ↔ p ≠ [] ∧ p.length ≤ 5 ∧ ∀ c ∈ p, may c = true := by
  unfold pchk
  by_cases h1 : p = []
  · rw [if_pos h1]; exact ⟨fun h => absurd h (by decide), fun h => absurd h1 h.1⟩
  · rw [if_neg h1]
    by_cases h2 : 5 < p.length
    · rw [if_pos h2]; exact ⟨fun h => absurd h (by decide), fun h => by omega⟩
    · rw [if_neg h2]
      by_cases h3 : p.all may = true
      · rw [if_pos h3]; exact ⟨fun _ => ⟨h1, by omega, fun c hc => List.all_eq_true.1 h3 c hc⟩, fun _ => rfl⟩
      · rw [if_neg h3]; exact ⟨fun h => absurd h (by decide), fun h => absurd (List.all_eq_true.2 h.2.2) h3⟩
theorem over_ok {p : List Int} {lo hi : Int} : over p lo hi = 0 ↔ pchk p = 0 ∧ chk lo hi = 0 := by
  unfold over
  by_cases h : pchk p = 0
  · rw [if_pos h]; exact ⟨fun h2 => ⟨h, h2⟩, fun h2 => h2.2⟩
  · rw [if_neg h]; exact ⟨fun h2 => absurd h2 h, fun h2 => absurd h2.1 h⟩

/-- One factor more: times the span, and that factor added. -/
def hstep (lo hi : Int) (s : Int × Int × Int) (c : Int) : Int × Int × Int :=
  if s.2.2 = 0 then (if (stimesR s.1 s.2.1 lo hi).2.2 = 0 then addR (stimesR s.1 s.2.1 lo hi).1 (stimesR s.1 s.2.1 lo hi).2.1 c c else (0, 0, 4)) else (0, 0, 4)
/-- From the last factor on. -/
def hornR (lo hi : Int) : List Int → Int × Int × Int
  | [] => (0, 0, 0)
  | [c] => (c, c, 0)
  | c :: d :: r => hstep lo hi (hornR lo hi (d :: r)) c
theorem horn_one (lo hi c : Int) : hornR lo hi [c] = (c, c, 0) := rfl
theorem horn_cons (lo hi c : Int) {r : List Int} (h : r ≠ []) : hornR lo hi (c :: r) = hstep lo hi (hornR lo hi r) c := by
  cases r with
  | nil => exact absurd rfl h
  | cons d r => rfl
theorem hstep_ok {lo hi c : Int} {s : Int × Int × Int} (h : (hstep lo hi s c).2.2 = 0) :
    s.2.2 = 0 ∧ (stimesR s.1 s.2.1 lo hi).2.2 = 0 ∧ (addR (stimesR s.1 s.2.1 lo hi).1 (stimesR s.1 s.2.1 lo hi).2.1 c c).2.2 = 0 ∧
    hstep lo hi s c = addR (stimesR s.1 s.2.1 lo hi).1 (stimesR s.1 s.2.1 lo hi).2.1 c c := by
  unfold hstep at h ⊢
  by_cases h1 : s.2.2 = 0
  · rw [if_pos h1] at h ⊢
    by_cases h2 : (stimesR s.1 s.2.1 lo hi).2.2 = 0
    · rw [if_pos h2] at h ⊢; exact ⟨h1, h2, h, rfl⟩
    · rw [if_neg h2] at h; exact absurd h (by decide)
  · rw [if_neg h1] at h; exact absurd h (by decide)
theorem hstep_fault (lo hi : Int) (s : Int × Int × Int) (c : Int) : (hstep lo hi s c).2.2 = 0 ∨ hstep lo hi s c = (0, 0, 4) := by
  unfold hstep
  by_cases h1 : s.2.2 = 0
  · rw [if_pos h1]
    by_cases h2 : (stimesR s.1 s.2.1 lo hi).2.2 = 0
    · rw [if_pos h2]; exact add_fault _ _ _ _
    · rw [if_neg h2]; exact .inr rfl
  · rw [if_neg h1]; exact .inr rfl
theorem horn_fault (lo hi : Int) (p : List Int) : (hornR lo hi p).2.2 = 0 ∨ hornR lo hi p = (0, 0, 4) := by
  cases p with
  | nil => exact .inl rfl
  | cons c r =>
    cases r with
    | nil => exact .inl rfl
    | cons d r => exact hstep_fault _ _ _ _
theorem horn_chk {lo hi : Int} (hl : lo ≤ hi) : ∀ (p : List Int), p ≠ [] → (∀ c ∈ p, may c = true) → (hornR lo hi p).2.2 = 0 → chk (hornR lo hi p).1 (hornR lo hi p).2.1 = 0
  | [], h, _, _ => absurd rfl h
  | [c], _, hm, _ => by
    have m := hm c (List.mem_singleton.2 rfl)
    exact chk_ok.2 ⟨m, m, Int.le_refl _⟩
  | c :: d :: r, _, hm, h => by
    have h' : (hstep lo hi (hornR lo hi (d :: r)) c).2.2 = 0 := h
    obtain ⟨h1, h2, h3, e⟩ := hstep_ok h'
    have i := horn_chk hl (d :: r) (by simp) (fun x hx => hm x (List.mem_cons_of_mem _ hx)) h1
    obtain ⟨_, _, i3⟩ := chk_ok.1 i
    have t := stimes_chk i3 hl h2
    obtain ⟨_, _, t3⟩ := chk_ok.1 t
    show chk (hstep lo hi (hornR lo hi (d :: r)) c).1 (hstep lo hi (hornR lo hi (d :: r)) c).2.1 = 0
    rw [e]
    exact add_chk t3 (Int.le_refl _) h3

/-- What it is at n, by so many parts: 1000 times itself, as often as there are factors but one. -/
def hv (n : Int) : List Int → Int
  | [] => 0
  | c :: r => c * 1000 ^ r.length + hv n r * n
theorem pow_nonneg (k : Nat) : (0 : Int) ≤ 1000 ^ k := by
  have : (0 : Int) < 1000 ^ k := Int.pow_pos (by decide)
  omega
theorem pow_succ' (k : Nat) : (1000 : Int) ^ (k + 1) = 1000 * 1000 ^ k := by rw [Int.pow_succ, Int.mul_comm]
/-- What it is is in the range from the last factor on. -/
theorem horn_has {lo hi n : Int} (h1 : lo ≤ n) (h2 : n ≤ hi) : ∀ (p : List Int) (k : Nat), p.length = k + 1 → (hornR lo hi p).2.2 = 0 →
    (hornR lo hi p).1 * 1000 ^ k ≤ hv n p ∧ hv n p ≤ (hornR lo hi p).2.1 * 1000 ^ k
  | [], _, h, _ => by simp at h
  | [c], k, hk, _ => by
    have : k = 0 := by simpa using hk.symm
    subst this
    show c * 1 ≤ c * 1 + 0 * n ∧ c * 1 + 0 * n ≤ c * 1
    omega
  | c :: d :: r, k, hk, h => by
    have h' : (hstep lo hi (hornR lo hi (d :: r)) c).2.2 = 0 := h
    obtain ⟨g1, g2, g3, e⟩ := hstep_ok h'
    have hk' : k = r.length + 1 := by simpa using hk.symm
    obtain ⟨i1, i2⟩ := horn_has h1 h2 (d :: r) r.length (by simp) g1
    obtain ⟨t1, t2⟩ := stimes_by (pow_nonneg r.length) i1 i2 h1 h2 g2
    show (hstep lo hi (hornR lo hi (d :: r)) c).1 * 1000 ^ k ≤ c * 1000 ^ (d :: r).length + hv n (d :: r) * n ∧ c * 1000 ^ (d :: r).length + hv n (d :: r) * n ≤ (hstep lo hi (hornR lo hi (d :: r)) c).2.1 * 1000 ^ k
    rw [e, (add_is g3).1, hk', List.length_cons, pow_succ']
    generalize (1000 : Int) * 1000 ^ r.length = D at *
    refine ⟨?_, ?_⟩
    · show ((stimesR (hornR lo hi (d :: r)).1 (hornR lo hi (d :: r)).2.1 lo hi).1 + c) * D ≤ _
      rw [Int.add_mul]; omega
    · show _ ≤ ((stimesR (hornR lo hi (d :: r)).1 (hornR lo hi (d :: r)).2.1 lo hi).2.1 + c) * D
      rw [Int.add_mul]; omega

/-- What it is at n, by 10^12 parts: so many terms, from the power 0 on. -/
def exN (n : Int) (p : List Int) : Nat → Int
  | 0 => 0
  | k + 1 => exN n p k + p.getD k 0 * n ^ k * 1000 ^ (4 - k)
theorem ex_hv (n : Int) {p : List Int} (h0 : p ≠ []) (h5 : p.length ≤ 5) : exN n p p.length = hv n p * 1000 ^ (5 - p.length) := by
  match p, h0, h5 with
  | [a], _, _ => simp [exN, hv]
  | [a, b], _, _ => simp [exN, hv]; grind
  | [a, b, c], _, _ => simp [exN, hv]; grind
  | [a, b, c, d], _, _ => simp [exN, hv]; grind
  | [a, b, c, d, e], _, _ => simp [exN, hv]; grind
theorem low_by {s E D : Int} (hD : 0 < D) (h : s * D ≤ E) : s ≤ fl E D := by
  have := fl_spec_pos (n := E) hD
  rcases Int.lt_or_le (fl E D) s with c | c
  · have c2 : fl E D + 1 ≤ s := by omega
    have c3 := Int.mul_le_mul_of_nonneg_left c2 (Int.le_of_lt hD)
    rw [Int.mul_add, Int.mul_one, Int.mul_comm D s] at c3
    omega
  · exact c
theorem high_by {s E D : Int} (hD : 0 < D) (h : E ≤ s * D) : ce E D ≤ s := by
  have := low_by (s := -s) (E := -E) hD (by rw [Int.neg_mul]; omega)
  unfold ce; omega
/-- At each number of a span, by Horner's way. -/
theorem horn_value {lo hi n : Int} {p : List Int} (h0 : p ≠ []) (h5 : p.length ≤ 5) (h1 : lo ≤ n) (h2 : n ≤ hi) (h : (hornR lo hi p).2.2 = 0) :
    (hornR lo hi p).1 ≤ fl (exN n p p.length) 1000000000000 ∧ ce (exN n p p.length) 1000000000000 ≤ (hornR lo hi p).2.1 := by
  have hl : 0 < p.length := List.length_pos_iff.2 h0
  obtain ⟨k, hk⟩ : ∃ k, p.length = k + 1 := ⟨p.length - 1, by omega⟩
  obtain ⟨i1, i2⟩ := horn_has h1 h2 p k hk h
  have e : (1000 : Int) ^ k * 1000 ^ (5 - p.length) = 1000000000000 := by
    rw [← Int.pow_add, show k + (5 - p.length) = 4 by omega]; decide
  have z := pow_nonneg (5 - p.length)
  have j1 := Int.mul_le_mul_of_nonneg_right i1 z
  have j2 := Int.mul_le_mul_of_nonneg_right i2 z
  rw [Int.mul_assoc, e] at j1 j2
  rw [ex_hv n h0 h5]
  exact ⟨low_by (by decide) j1, high_by (by decide) j2⟩
end Um
