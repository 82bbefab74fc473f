/-
  Plain arithmetic of powers, no program: a number from 0 on with itself so many times, downward and upward, each by 'times' of the thousandths; an end of a span so; and that a power made of ends so is the power of the span.
-/
import Derived.Test.YtlddhapbnlmpiabDoorPmath
namespace Um
set_option linter.unusedSimpArgs false
def dwR (x : Int) : Nat → Int × Int
  | 0 => (1000, 0)
  | k + 1 => if (dwR x k).2 = 0 then (if (timesR (dwR x k).1 x).2.2 = 0 then ((timesR (dwR x k).1 x).1, 0) else (0, (timesR (dwR x k).1 x).2.2)) else dwR x k
def upR (x : Int) : Nat → Int × Int
  | 0 => (1000, 0)
  | k + 1 => if (upR x k).2 = 0 then (if (timesR (upR x k).1 x).2.2 = 0 then ((timesR (upR x k).1 x).2.1, 0) else (0, (timesR (upR x k).1 x).2.2)) else upR x k
theorem dw_succ (x : Int) (k : Nat) : dwR x (k + 1) = if (dwR x k).2 = 0 then (if (timesR (dwR x k).1 x).2.2 = 0 then ((timesR (dwR x k).1 x).1, 0) else (0, (timesR (dwR x k).1 x).2.2)) else dwR x k := rfl
theorem up_succ (x : Int) (k : Nat) : upR x (k + 1) = if (upR x k).2 = 0 then (if (timesR (upR x k).1 x).2.2 = 0 then ((timesR (upR x k).1 x).2.1, 0) else (0, (timesR (upR x k).1 x).2.2)) else upR x k := rfl
theorem dw_go {x : Int} {k : Nat} (h : (dwR x k).2 = 0) (h2 : (timesR (dwR x k).1 x).2.2 = 0) : dwR x (k + 1) = ((timesR (dwR x k).1 x).1, 0) := by
  rw [dw_succ, if_pos h, if_pos h2]
theorem up_go {x : Int} {k : Nat} (h : (upR x k).2 = 0) (h2 : (timesR (upR x k).1 x).2.2 = 0) : upR x (k + 1) = ((timesR (upR x k).1 x).2.1, 0) := by
  rw [up_succ, if_pos h, if_pos h2]
theorem dw_stay {x : Int} {k : Nat} (h : ¬ (dwR x k).2 = 0) : ∀ m, dwR x (k + m) = dwR x k
  | 0 => rfl
  | m + 1 => by
    have i := dw_stay h m
    show dwR x (k + m + 1) = _
    rw [dw_succ, i, if_neg h]
theorem up_stay {x : Int} {k : Nat} (h : ¬ (upR x k).2 = 0) : ∀ m, upR x (k + m) = upR x k
  | 0 => rfl
  | m + 1 => by
    have i := up_stay h m
    show upR x (k + m + 1) = _
    rw [up_succ, i, if_neg h]
/-- Where it goes wrong at one time it has gone wrong behind all. -/
theorem dw_stop {x : Int} {k n : Nat} (hk : k < n) (h : (dwR x k).2 = 0) (h2 : ¬ (timesR (dwR x k).1 x).2.2 = 0) : dwR x n = (0, (timesR (dwR x k).1 x).2.2) := by
  have e : dwR x (k + 1) = (0, (timesR (dwR x k).1 x).2.2) := by rw [dw_succ, if_pos h, if_neg h2]
  obtain ⟨m, rfl⟩ : ∃ m, n = k + 1 + m := ⟨n - (k + 1), by omega⟩
  rw [dw_stay (by rw [e]; exact h2) m, e]
theorem up_stop {x : Int} {k n : Nat} (hk : k < n) (h : (upR x k).2 = 0) (h2 : ¬ (timesR (upR x k).1 x).2.2 = 0) : upR x n = (0, (timesR (upR x k).1 x).2.2) := by
  have e : upR x (k + 1) = (0, (timesR (upR x k).1 x).2.2) := by rw [up_succ, if_pos h, if_neg h2]
  obtain ⟨m, rfl⟩ : ∃ m, n = k + 1 + m := ⟨n - (k + 1), by omega⟩
  rw [up_stay (by rw [e]; exact h2) m, e]

/-- Times of two from 0 on: the upper one tells whether both may be. -/
theorem times_pos {a b : Int} (ha : 0 ≤ a) (ha2 : a ≤ 1000000000) (hb : 0 ≤ b) (hb2 : b ≤ 1000000000) :
    timesR a b = if may (ce (a * b) 1000) = true then (fl (a * b) 1000, ce (a * b) 1000, 0) else (0, 0, 4) := by
  unfold timesR nextR
  rw [if_pos ⟨(may_iff a).2 ⟨by omega, ha2⟩, (may_iff b).2 ⟨by omega, hb2⟩⟩]
  by_cases h : may (ce (a * b) 1000) = true
  · have h1 := fl_nonneg (d := 1000) (by decide) (Int.mul_nonneg ha hb)
    have h2 := (fl_le_ce (a * b) 1000 (by decide)).1
    have h3 := ((may_iff _).1 h).2
    rw [if_pos h, if_pos ⟨(may_iff _).2 ⟨by omega, by omega⟩, h⟩]
  · rw [if_neg h, if_neg (fun c => h c.2)]

theorem up_ag {x : Int} (hx : 0 ≤ x) (hx2 : x ≤ 1000000000) : ∀ k, upR x k = if (agR x k).2.2 = 0 then ((agR x k).2.1, 0) else (0, 4)
  | 0 => rfl
  | k + 1 => by
    have i := up_ag hx hx2 k
    by_cases h : (agR x k).2.2 = 0
    · rw [if_pos h] at i
      have r := ag_right hx k h
      rw [up_succ, i, ag_succ, if_pos h]
      show (if (0 : Int) = 0 then _ else _) = _
      rw [if_pos rfl]
      show (if (timesR (agR x k).2.1 x).2.2 = 0 then ((timesR (agR x k).2.1 x).2.1, (0 : Int)) else (0, (timesR (agR x k).2.1 x).2.2)) = _
      rw [times_pos (by omega) r.2.2 hx hx2]
      by_cases h2 : may (ce ((agR x k).2.1 * x) 1000) = true
      · rw [if_pos h2, if_pos h2]; rfl
      · rw [if_neg h2, if_neg h2]
    · rw [if_neg h] at i
      rw [up_succ, i, ag_succ, if_neg h]; rfl
theorem dw_ag {x : Int} (hx : 0 ≤ x) (hx2 : x ≤ 1000000000) : ∀ k, (agR x k).2.2 = 0 → dwR x k = ((agR x k).1, 0)
  | 0, _ => rfl
  | k + 1, h => by
    obtain ⟨h1, h2, e⟩ := ag_step h
    have i := dw_ag hx hx2 k h1
    have r := ag_right hx k h1
    rw [e, dw_succ, i]
    show (if (0 : Int) = 0 then _ else _) = _
    rw [if_pos rfl]
    show (if (timesR (agR x k).1 x).2.2 = 0 then ((timesR (agR x k).1 x).1, (0 : Int)) else (0, (timesR (agR x k).1 x).2.2)) = _
    have m := ((may_iff _).1 h2).2
    have a1 := Int.mul_nonneg r.1 hx
    have a2 := ce_mono (d := 1000) (by decide) (Int.mul_le_mul_of_nonneg_right r.2.1 hx)
    have a3 := (fl_le_ce ((agR x k).1 * x) 1000 (by decide)).1
    have a4 := fl_nonneg (d := 1000) (by decide) a1
    rw [times_pos r.1 (by omega) hx hx2, if_pos ((may_iff _).2 ⟨by omega, by omega⟩)]
    rfl
theorem dw_right {x : Int} (hx : 0 ≤ x) (hx2 : x ≤ 1000000000) : ∀ k, ((dwR x k).2 = 0 ∧ 0 ≤ (dwR x k).1 ∧ (dwR x k).1 ≤ 1000000000) ∨ dwR x k = (0, 4)
  | 0 => .inl (by show (0 : Int) = 0 ∧ (0 : Int) ≤ 1000 ∧ (1000 : Int) ≤ 1000000000; decide)
  | k + 1 => by
    rcases dw_right hx hx2 k with ⟨h, h1, h2⟩ | h
    · rw [dw_succ, if_pos h, times_pos h1 h2 hx hx2]
      by_cases hm : may (ce ((dwR x k).1 * x) 1000) = true
      · rw [if_pos hm]
        have m := ((may_iff _).1 hm).2
        have a3 := (fl_le_ce ((dwR x k).1 * x) 1000 (by decide)).1
        have a4 := fl_nonneg (d := 1000) (by decide) (Int.mul_nonneg h1 hx)
        exact .inl ⟨rfl, a4, Int.le_trans a3 m⟩
      · rw [if_neg hm]; exact .inr rfl
    · rw [dw_succ, h]; exact .inr rfl
theorem up_right {x : Int} (hx : 0 ≤ x) (hx2 : x ≤ 1000000000) (k : Nat) : ((upR x k).2 = 0 ∧ 0 ≤ (upR x k).1 ∧ (upR x k).1 ≤ 1000000000) ∨ upR x k = (0, 4) := by
  rw [up_ag hx hx2]
  by_cases h : (agR x k).2.2 = 0
  · have r := ag_right hx k h
    rw [if_pos h]; exact .inl ⟨rfl, Int.le_trans r.1 r.2.1, r.2.2⟩
  · rw [if_neg h]; exact .inr rfl
theorem ag_mono {p q : Int} (hp : 0 ≤ p) (h : p ≤ q) : ∀ k, (agR q k).2.2 = 0 → (agR p k).2.2 = 0 ∧ (agR p k).2.1 ≤ (agR q k).2.1
  | 0, _ => ⟨rfl, Int.le_refl _⟩
  | k + 1, hq => by
    obtain ⟨h1, h2, e⟩ := ag_step hq
    obtain ⟨i1, i2⟩ := ag_mono hp h k h1
    have r := ag_right hp k i1
    have rq := ag_right (Int.le_trans hp h) k h1
    have c : (agR p k).2.1 * p ≤ (agR q k).2.1 * q := Int.mul_le_mul i2 h hp (by omega)
    have c2 := ce_mono (d := 1000) (by decide) c
    have c3 : 0 ≤ (agR p k).2.1 * p := Int.mul_nonneg (by omega) hp
    have c4 := fl_nonneg (d := 1000) (by decide) c3
    have c5 := (fl_le_ce ((agR p k).2.1 * p) 1000 (by decide)).1
    have m := ((may_iff _).1 h2).2
    have hm : may (ce ((agR p k).2.1 * p) 1000) = true := (may_iff _).2 ⟨by omega, by omega⟩
    rw [e, ag_succ, if_pos i1, if_pos hm]
    exact ⟨rfl, c2⟩

/-- The lower end, the upper end: value and fault. -/
def lowR (x : Int) (k : Nat) : Int × Int := if x < 0 then (-(upR (-x) k).1, (upR (-x) k).2) else dwR x k
def highR (x : Int) (k : Nat) : Int × Int := if x < 0 then (-(dwR (-x) k).1, (dwR (-x) k).2) else upR x k
def join (a b : Int × Int) : Int × Int × Int := if a.2 = 0 then (if b.2 = 0 then (a.1, b.1, 0) else (0, 0, b.2)) else (0, 0, a.2)
theorem ag_bad {n : Int} {k : Nat} (h : ¬ (agR n k).2.2 = 0) : agR n k = (0, 0, 4) := (ag_fault n k).resolve_left h
theorem join_bad {a : Int × Int} (h : a.2 = 0 ∨ a = (0, 4)) : join a (0, 4) = (0, 0, 4) := by
  unfold join
  rcases h with h | h
  · rw [if_pos h]; rfl
  · rw [h]; rfl
theorem both_bad {a : Int × Int × Int} (h : a.2.2 = 0 ∨ a.2.2 = 4) {b : Int × Int × Int} (hb : b.2.2 = 4) : both a b = (0, 0, 4) := by
  unfold both
  rcases h with h | h
  · rw [if_pos h, if_neg (by rw [hb]; decide), hb]
  · rw [if_neg (by rw [h]; decide), h]
theorem both_first {a b : Int × Int × Int} (h : a.2.2 = 4) : both a b = (0, 0, 4) := by
  unfold both; rw [if_neg (by rw [h]; decide), h]
theorem ag_code (n : Int) (k : Nat) : (agR n k).2.2 = 0 ∨ (agR n k).2.2 = 4 := (ag_fault n k).imp id (fun h => by rw [h])

theorem ends_are {f t : Int} (k : Nat) (h : f ≤ t) (h1 : -1000000000 ≤ f) (h2 : t ≤ 1000000000) : join (lowR f k) (highR t k) = both (endR f k) (endR t k) := by
  unfold lowR highR endR
  rcases Int.lt_or_le f 0 with hf | hf
  · rw [if_pos hf, if_neg (by omega : ¬ 0 ≤ f)]
    have u := up_ag (x := -f) (by omega) (by omega) k
    by_cases ha : (agR (-f) k).2.2 = 0
    · rw [if_pos ha] at u
      rw [u]
      rcases Int.lt_or_le t 0 with ht | ht
      · rw [if_pos ht, if_neg (by omega : ¬ 0 ≤ t)]
        have m := (ag_mono (p := -t) (q := -f) (by omega) (by omega) k ha).1
        rw [dw_ag (x := -t) (by omega) (by omega) k m]
        unfold both join
        simp [ha, m]
      · rw [if_neg (by omega : ¬ t < 0), if_pos ht, up_ag ht h2]
        by_cases hb : (agR t k).2.2 = 0
        · unfold both join
          simp [ha, hb]
        · rw [if_neg hb, ag_bad hb]
          unfold both join
          simp [ha]
    · rw [if_neg ha] at u
      rw [u, both_first (by show (agR (-f) k).2.2 = 4; rw [ag_bad ha])]
      rfl
  · rw [if_neg (by omega : ¬ f < 0), if_pos hf, if_neg (by omega : ¬ t < 0), if_pos (by omega : 0 ≤ t), up_ag (by omega) h2]
    by_cases hb : (agR t k).2.2 = 0
    · have m := (ag_mono hf h k hb).1
      rw [if_pos hb, dw_ag hf (by omega) k m]
      unfold both join
      simp [hb, m]
    · rw [if_neg hb, both_bad (ag_code f k) (by rw [ag_bad hb]), join_bad]
      rcases dw_right hf (by omega) k with ⟨c, _⟩ | c
      · exact .inl c
      · exact .inr c
/-- A power of a span, by its ends. -/
def powC (lo hi : Int) (k : Nat) : Int × Int × Int := if k % 2 = 0 then join (lowR (farR lo hi).1 k) (highR (farR lo hi).2 k) else join (lowR lo k) (highR hi k)
theorem pow_code {lo hi : Int} (k : Nat) (m1 : may lo = true) (m2 : may hi = true) (h : lo ≤ hi) : powC lo hi k = powR lo hi k := by
  have a := (may_iff lo).1 m1
  have b := (may_iff hi).1 m2
  unfold powC powR
  by_cases hk : k % 2 = 0
  · rw [if_pos hk, if_pos hk]
    have r := far_right h
    have m := far_may m1 m2
    rw [ends_are k r.2 (by omega) m]
    have e : ∀ n, 0 ≤ n → endR n k = agR n k := fun n hn => by unfold endR; rw [if_pos hn]
    rw [e _ r.1, e _ (by omega)]
  · rw [if_neg hk, if_neg hk, ends_are k h a.1 b.2]
/-- What Of answers to any span and any number of times. -/
def ofR (lo hi n : Int) : Int × Int × Int := if chk lo hi = 0 then (if n < 0 ∨ 4 < n then (0, 0, 1) else powR lo hi n.toNat) else (0, 0, chk lo hi)
end Um
