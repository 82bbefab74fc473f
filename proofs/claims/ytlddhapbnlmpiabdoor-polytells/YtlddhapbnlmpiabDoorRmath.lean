/-
  Plain arithmetic of slopes, no program: a polynomial's range from the last factor on has what it is at each part of a number, too; between two numbers it changes by what its slope is there (Simpson's rule, which is exact up to the power 4): so the range from the middle has all.
-/
import Derived.Test.YtlddhapbnlmpiabDoorQpow
namespace Um
set_option linter.unusedSimpArgs false

theorem corners_parts {al ah bl bh V N D q : Int} (hD : 0 ≤ D) (hq : 0 ≤ q) (h1 : al * D ≤ V) (h2 : V ≤ ah * D) (h3 : bl * q ≤ N) (h4 : N ≤ bh * q) :
    mn4 (al * bl) (al * bh) (ah * bl) (ah * bh) * (D * q) ≤ V * N ∧ V * N ≤ mx4 (al * bl) (al * bh) (ah * bl) (ah * bh) * (D * q) := by
  obtain ⟨q0, q1, q2, q3⟩ := mn4_le (al * bl) (al * bh) (ah * bl) (ah * bh)
  obtain ⟨p0, p1, p2, p3⟩ := le_mx4 (al * bl) (al * bh) (ah * bl) (ah * bh)
  generalize mn4 (al * bl) (al * bh) (ah * bl) (ah * bh) = m at *
  generalize mx4 (al * bl) (al * bh) (ah * bl) (ah * bh) = x at *
  have hDq := Int.mul_nonneg hD hq
  have e : ∀ a b : Int, b * q * (a * D) = a * b * (D * q) := fun a b => by grind
  constructor
  · refine le_lin h3 h4 ?_ ?_
    · rw [Int.mul_comm V]; refine le_lin h1 h2 ?_ ?_ <;> rw [e]
      · exact Int.mul_le_mul_of_nonneg_right q0 hDq
      · exact Int.mul_le_mul_of_nonneg_right q2 hDq
    · rw [Int.mul_comm V]; refine le_lin h1 h2 ?_ ?_ <;> rw [e]
      · exact Int.mul_le_mul_of_nonneg_right q1 hDq
      · exact Int.mul_le_mul_of_nonneg_right q3 hDq
  · refine lin_le h3 h4 ?_ ?_
    · rw [Int.mul_comm V]; refine lin_le h1 h2 ?_ ?_ <;> rw [e]
      · exact Int.mul_le_mul_of_nonneg_right p0 hDq
      · exact Int.mul_le_mul_of_nonneg_right p2 hDq
    · rw [Int.mul_comm V]; refine lin_le h1 h2 ?_ ?_ <;> rw [e]
      · exact Int.mul_le_mul_of_nonneg_right p1 hDq
      · exact Int.mul_le_mul_of_nonneg_right p3 hDq
theorem stimes_parts {al ah bl bh V N D q : Int} (hD : 0 ≤ D) (hq : 0 ≤ q) (h1 : al * D ≤ V) (h2 : V ≤ ah * D) (h3 : bl * q ≤ N) (h4 : N ≤ bh * q) (h : (stimesR al ah bl bh).2.2 = 0) :
    (stimesR al ah bl bh).1 * (1000 * q * D) ≤ V * N ∧ V * N ≤ (stimesR al ah bl bh).2.1 * (1000 * q * D) := by
  have hc := corners_parts hD hq h1 h2 h3 h4
  have hDq := Int.mul_nonneg hD hq
  unfold stimesR at h ⊢
  generalize mn4 (al * bl) (al * bh) (ah * bl) (ah * bh) = mn at *
  generalize mx4 (al * bl) (al * bh) (ah * bl) (ah * bh) = mx at *
  have s1 := (fl_spec_pos (n := mn) (d := 1000) (by decide)).1
  have s2 := (ce_spec_pos (n := mx) (d := 1000) (by decide)).1
  rcases fit_cases (fl mn 1000) (ce mx 1000) with e | ⟨e, m1, m2⟩
  · rw [e] at h; exact absurd h (by decide)
  · rw [e]
    have t1 := Int.mul_le_mul_of_nonneg_right s1 hDq
    have t2 := Int.mul_le_mul_of_nonneg_right s2 hDq
    have r : ∀ f : Int, f * (1000 * q * D) = 1000 * f * (D * q) := fun f => by grind
    refine ⟨?_, ?_⟩
    · show fl mn 1000 * (1000 * q * D) ≤ V * N
      rw [r]; exact Int.le_trans t1 hc.1
    · show V * N ≤ ce mx 1000 * (1000 * q * D)
      rw [r]; exact Int.le_trans hc.2 t2
/-- What it is at N by q, by so many parts. -/
def hvq (q N : Int) : List Int → Int
  | [] => 0
  | c :: r => c * (1000 * q) ^ r.length + hvq q N r * N
theorem powq_nonneg {q : Int} (hq : 0 ≤ q) : ∀ (k : Nat), (0 : Int) ≤ (1000 * q) ^ k
  | 0 => by rw [Int.pow_zero]; decide
  | k + 1 => by rw [Int.pow_succ]; exact Int.mul_nonneg (powq_nonneg hq k) (by omega)
theorem horn_parts {lo hi q N : Int} (hq : 0 ≤ q) (h1 : lo * q ≤ N) (h2 : N ≤ hi * q) : ∀ (p : List Int) (k : Nat), p.length = k + 1 → (hornR lo hi p).2.2 = 0 →
    (hornR lo hi p).1 * (1000 * q) ^ k ≤ hvq q N p ∧ hvq q N p ≤ (hornR lo hi p).2.1 * (1000 * q) ^ k
  | [], _, h, _ => by simp at h
  | [c], k, hk, _ => by
    have : k = 0 := by simpa using hk.symm
    subst this
    simp [hvq, hornR]
  | c :: d :: r, k, hk, h => by
    have h' : (hstep lo hi (hornR lo hi (d :: r)) c).2.2 = 0 := h
    obtain ⟨g1, g2, g3, e⟩ := hstep_ok h'
    have hk' : k = r.length + 1 := by simpa using hk.symm
    obtain ⟨i1, i2⟩ := horn_parts hq h1 h2 (d :: r) r.length (by simp) g1
    obtain ⟨t1, t2⟩ := stimes_parts (powq_nonneg hq r.length) hq i1 i2 h1 h2 g2
    show (hstep lo hi (hornR lo hi (d :: r)) c).1 * (1000 * q) ^ k ≤ c * (1000 * q) ^ (d :: r).length + hvq q N (d :: r) * N ∧ c * (1000 * q) ^ (d :: r).length + hvq q N (d :: r) * N ≤ (hstep lo hi (hornR lo hi (d :: r)) c).2.1 * (1000 * q) ^ k
    have es : (1000 * q) ^ (r.length + 1) = 1000 * q * (1000 * q) ^ r.length := by rw [Int.pow_succ, Int.mul_comm]
    rw [e, (add_is g3).1, hk', List.length_cons, es]
    generalize 1000 * q * (1000 * q) ^ r.length = D at *
    refine ⟨?_, ?_⟩
    · show ((stimesR (hornR lo hi (d :: r)).1 (hornR lo hi (d :: r)).2.1 lo hi).1 + c) * D ≤ _
      rw [Int.add_mul]; omega
    · show _ ≤ ((stimesR (hornR lo hi (d :: r)).1 (hornR lo hi (d :: r)).2.1 lo hi).2.1 + c) * D
      rw [Int.add_mul]; omega

/-- Its slope: each factor but the first times its power; of one factor 0 alone. -/
def ders (p : List Int) : List Int := if p.length ≤ 1 then [0] else (List.range (p.length - 1)).map fun i => p.getD (i + 1) 0 * (i + 1 : Nat)
def derR (p : List Int) : List Int × Int := if (ders p).all may = true then (ders p, 0) else ([], 4)
theorem ders_length {p : List Int} (h : 1 < p.length) : (ders p).length = p.length - 1 := by
  unfold ders; rw [if_neg (by omega)]; simp
theorem ders_some (p : List Int) : ders p ≠ [] := by
  unfold ders
  by_cases h : p.length ≤ 1
  · rw [if_pos h]; simp
  · rw [if_neg h]
    intro c
    have : ((List.range (p.length - 1)).map fun i => p.getD (i + 1) 0 * ((i + 1 : Nat) : Int)).length = 0 := by rw [c]; rfl
    simp at this
    omega
/-- Between two numbers of a span it changes by what its slope is there. -/
theorem slope_has {lo hi n m : Int} {p : List Int} (h0 : p ≠ []) (h5 : p.length ≤ 5) (hn1 : lo ≤ n) (hn2 : n ≤ hi) (hm1 : lo ≤ m) (hm2 : m ≤ hi) (h : (hornR lo hi (ders p)).2.2 = 0) :
    ∃ W : Int, 48 * (exN n p p.length - exN m p p.length) = W * (n - m) ∧ (hornR lo hi (ders p)).1 * 48000000000 ≤ W ∧ W ≤ (hornR lo hi (ders p)).2.1 * 48000000000 := by
  have P := fun (N : Int) (a : lo * 2 ≤ N) (b : N ≤ hi * 2) (k : Nat) (hk : (ders p).length = k + 1) => horn_parts (lo := lo) (hi := hi) (q := 2) (by decide) a b (ders p) k hk h
  match p, h0, h5 with
  | [a], _, _ =>
    refine ⟨0, by simp [exN], ?_⟩
    have e : hornR lo hi (ders [a]) = (0, 0, 0) := rfl
    rw [e]; decide
  | [a, b], _, _ =>
    have e : ders [a, b] = [b * 1] := rfl
    rw [e] at P h ⊢
    generalize hornR lo hi [b * 1] = S at *
    obtain ⟨a1, a2⟩ := P (2 * m) (by omega) (by omega) 0 rfl
    obtain ⟨b1, b2⟩ := P (n + m) (by omega) (by omega) 0 rfl
    obtain ⟨c1, c2⟩ := P (2 * n) (by omega) (by omega) 0 rfl
    refine ⟨8000000000 * (hvq 2 (2 * m) [b * 1] + 4 * hvq 2 (n + m) [b * 1] + hvq 2 (2 * n) [b * 1]), ?_, by omega, by omega⟩
    simp [exN, hvq]; grind
  | [a, b, c], _, _ =>
    have e : ders [a, b, c] = [b * 1, c * 2] := rfl
    rw [e] at P h ⊢
    generalize hornR lo hi [b * 1, c * 2] = S at *
    obtain ⟨a1, a2⟩ := P (2 * m) (by omega) (by omega) 1 rfl
    obtain ⟨b1, b2⟩ := P (n + m) (by omega) (by omega) 1 rfl
    obtain ⟨c1, c2⟩ := P (2 * n) (by omega) (by omega) 1 rfl
    refine ⟨4000000 * (hvq 2 (2 * m) [b * 1, c * 2] + 4 * hvq 2 (n + m) [b * 1, c * 2] + hvq 2 (2 * n) [b * 1, c * 2]), ?_, by omega, by omega⟩
    simp [exN, hvq]; grind
  | [a, b, c, d], _, _ =>
    have e : ders [a, b, c, d] = [b * 1, c * 2, d * 3] := rfl
    rw [e] at P h ⊢
    generalize hornR lo hi [b * 1, c * 2, d * 3] = S at *
    obtain ⟨a1, a2⟩ := P (2 * m) (by omega) (by omega) 2 rfl
    obtain ⟨b1, b2⟩ := P (n + m) (by omega) (by omega) 2 rfl
    obtain ⟨c1, c2⟩ := P (2 * n) (by omega) (by omega) 2 rfl
    refine ⟨2000 * (hvq 2 (2 * m) [b * 1, c * 2, d * 3] + 4 * hvq 2 (n + m) [b * 1, c * 2, d * 3] + hvq 2 (2 * n) [b * 1, c * 2, d * 3]), ?_, by omega, by omega⟩
    simp [exN, hvq]; grind
  | [a, b, c, d, f], _, _ =>
    have e : ders [a, b, c, d, f] = [b * 1, c * 2, d * 3, f * 4] := rfl
    rw [e] at P h ⊢
    generalize hornR lo hi [b * 1, c * 2, d * 3, f * 4] = S at *
    obtain ⟨a1, a2⟩ := P (2 * m) (by omega) (by omega) 3 rfl
    obtain ⟨b1, b2⟩ := P (n + m) (by omega) (by omega) 3 rfl
    obtain ⟨c1, c2⟩ := P (2 * n) (by omega) (by omega) 3 rfl
    refine ⟨hvq 2 (2 * m) [b * 1, c * 2, d * 3, f * 4] + 4 * hvq 2 (n + m) [b * 1, c * 2, d * 3, f * 4] + hvq 2 (2 * n) [b * 1, c * 2, d * 3, f * 4], ?_, by omega, by omega⟩
    simp [exN, hvq]; grind
/-- What it is is in the range from the middle (from any number of the span): at, and the slope times how far. -/
theorem center_has {lo hi n m al ah fl' fh : Int} {p : List Int} (h0 : p ≠ []) (h5 : p.length ≤ 5) (hn1 : lo ≤ n) (hn2 : n ≤ hi) (hm1 : lo ≤ m) (hm2 : m ≤ hi)
    (h : (hornR lo hi (ders p)).2.2 = 0) (ha : al * 1000000000000 ≤ exN m p p.length) (hb : exN m p p.length ≤ ah * 1000000000000) (hf1 : fl' ≤ n - m) (hf2 : n - m ≤ fh)
    (ht : (stimesR (hornR lo hi (ders p)).1 (hornR lo hi (ders p)).2.1 fl' fh).2.2 = 0) :
    (al + (stimesR (hornR lo hi (ders p)).1 (hornR lo hi (ders p)).2.1 fl' fh).1) * 1000000000000 ≤ exN n p p.length ∧
    exN n p p.length ≤ (ah + (stimesR (hornR lo hi (ders p)).1 (hornR lo hi (ders p)).2.1 fl' fh).2.1) * 1000000000000 := by
  obtain ⟨W, e, w1, w2⟩ := slope_has h0 h5 hn1 hn2 hm1 hm2 h
  obtain ⟨t1, t2⟩ := stimes_by (by decide) w1 w2 hf1 hf2 ht
  generalize stimesR (hornR lo hi (ders p)).1 (hornR lo hi (ders p)).2.1 fl' fh = T at *
  rw [← e] at t1 t2
  omega
/-- Where the slope is nowhere below 0 a greater number gives no less. -/
theorem rises {lo hi n m : Int} {p : List Int} (h0 : p ≠ []) (h5 : p.length ≤ 5) (hn1 : lo ≤ n) (hn2 : n ≤ hi) (hm1 : lo ≤ m) (hm2 : m ≤ hi) (h : (hornR lo hi (ders p)).2.2 = 0)
    (hs : 0 ≤ (hornR lo hi (ders p)).1) (hnm : n ≤ m) : exN n p p.length ≤ exN m p p.length := by
  obtain ⟨W, e, w1, w2⟩ := slope_has h0 h5 hm1 hm2 hn1 hn2 h
  have : 0 ≤ W * (m - n) := Int.mul_nonneg (by omega) (by omega)
  omega
theorem falls {lo hi n m : Int} {p : List Int} (h0 : p ≠ []) (h5 : p.length ≤ 5) (hn1 : lo ≤ n) (hn2 : n ≤ hi) (hm1 : lo ≤ m) (hm2 : m ≤ hi) (h : (hornR lo hi (ders p)).2.2 = 0)
    (hs : (hornR lo hi (ders p)).2.1 ≤ 0) (hnm : n ≤ m) : exN m p p.length ≤ exN n p p.length := by
  obtain ⟨W, e, w1, w2⟩ := slope_has h0 h5 hn1 hn2 hm1 hm2 h
  have : 0 ≤ W * (n - m) := Int.mul_nonneg_of_nonpos_of_nonpos (by omega) (by omega)
  omega
end Um
