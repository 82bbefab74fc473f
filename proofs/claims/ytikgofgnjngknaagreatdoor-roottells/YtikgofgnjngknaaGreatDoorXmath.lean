/-
  Plain arithmetic of package root, no program: what May, Find and Sure answer to anything; that no root is lost; of a line.
-/
import Derived.Test.YtikgofgnjngknaaGreatDoorMaths
namespace Um
set_option linter.unusedSimpArgs false

def mayB (p : List Int) (lo hi : Int) : Bool := decide ((monoAll p lo hi).2.2 = 0) && (decide ((monoAll p lo hi).1 ≤ 0) && decide (0 ≤ (monoAll p lo hi).2.1))
def findR (p : List Int) (lo hi least : Int) : List (Int × Int) × Int := findG (rangeOf p) least 32 lo hi []
def findF (p : List Int) (lo hi least : Int) : Int := if over p lo hi = 0 then (if 1 ≤ least ∧ least ≤ 1000000000 then 0 else 1) else over p lo hi
def findAll (p : List Int) (lo hi least : Int) : List (Int × Int) × Int := if findF p lo hi least = 0 then findR p lo hi least else ([], findF p lo hi least)
def sureB (p : List Int) (lo hi : Int) : Bool := decide ((monoAll p lo hi).2.2 = 0) && decide (sureR lo hi p)

theorem all_over {p : List Int} {lo hi : Int} (h : (monoAll p lo hi).2.2 = 0) : over p lo hi = 0 ∧ monoAll p lo hi = monoR lo hi p ∧ (monoR lo hi p).2.2 = 0 := by
  unfold monoAll at h ⊢
  by_cases ho : over p lo hi = 0
  · rw [if_pos ho] at h ⊢; exact ⟨ho, rfl, h⟩
  · rw [if_neg ho] at h; exact absurd h ho
theorem find_ok {p : List Int} {lo hi least : Int} : findF p lo hi least = 0 ↔ over p lo hi = 0 ∧ 1 ≤ least ∧ least ≤ 1000000000 := by
  unfold findF
  by_cases ho : over p lo hi = 0
  · rw [if_pos ho]
    by_cases hl : 1 ≤ least ∧ least ≤ 1000000000
    · rw [if_pos hl]; exact ⟨fun _ => ⟨ho, hl⟩, fun _ => rfl⟩
    · rw [if_neg hl]; exact ⟨fun h => absurd h (by decide), fun h => absurd h.2 hl⟩
  · rw [if_neg ho]; exact ⟨fun h => absurd h ho, fun h => absurd h.1 ho⟩
theorem find_over {p : List Int} {lo hi least : Int} (h : ¬ over p lo hi = 0) : findAll p lo hi least = ([], over p lo hi) := by
  have e : findF p lo hi least = over p lo hi := by unfold findF; rw [if_neg h]
  unfold findAll
  rw [e, if_neg h]
theorem find_least {p : List Int} {lo hi least : Int} (h : over p lo hi = 0) (hl : ¬ (1 ≤ least ∧ least ≤ 1000000000)) : findAll p lo hi least = ([], 1) := by
  have e : findF p lo hi least = 1 := by unfold findF; rw [if_pos h, if_neg hl]
  unfold findAll
  rw [e, if_neg (by decide)]
theorem find_good {p : List Int} {lo hi least : Int} (h : over p lo hi = 0) (h1 : 1 ≤ least) (h2 : least ≤ 1000000000) : findAll p lo hi least = findR p lo hi least := by
  unfold findAll
  rw [if_pos (find_ok.2 ⟨h, h1, h2⟩)]
theorem find_some {p : List Int} {lo hi least : Int} (h : (findAll p lo hi least).2 = 0) : over p lo hi = 0 ∧ 1 ≤ least ∧ least ≤ 1000000000 ∧ findAll p lo hi least = findR p lo hi least ∧ (findR p lo hi least).2 = 0 := by
  by_cases hf : findF p lo hi least = 0
  · obtain ⟨a, b, c⟩ := find_ok.1 hf
    have e := find_good a b c
    rw [e] at h
    exact ⟨a, b, c, e, h⟩
  · unfold findAll at h; rw [if_neg hf] at h; exact absurd h hf
/-- Wide as it may be it is no wider than so many times two. -/
theorem over_width {p : List Int} {lo hi : Int} (h : over p lo hi = 0) : lo ≤ hi ∧ hi - lo ≤ 2 ^ 31 := by
  obtain ⟨m1, m2, hl⟩ := chk_ok.1 (over_ok.1 h).2
  have a := (may_iff lo).1 m1
  have b := (may_iff hi).1 m2
  refine ⟨hl, ?_⟩
  have : (2 : Int) ^ 31 = 2147483648 := by decide
  omega
theorem find_most (p : List Int) (lo hi least : Int) : (findAll p lo hi least).1.length ≤ 32 := by
  unfold findAll
  split
  · exact find_length 32 lo hi [] (by simp)
  · simp
/-- What is told lies between, is small, in order. -/
theorem find_row {p : List Int} {lo hi least : Int} (h : (findAll p lo hi least).2 = 0) : (∀ (i : Nat) (s : Int × Int), (findAll p lo hi least).1[i]? = some s → lo ≤ s.1 ∧ s.1 ≤ s.2 ∧ s.2 ≤ hi ∧ s.2 - s.1 ≤ least) ∧
    ∀ (i : Nat) (s t : Int × Int), (findAll p lo hi least).1[i]? = some s → (findAll p lo hi least).1[i + 1]? = some t → s.2 ≤ t.1 := by
  obtain ⟨ho, h1, h2, e, h0⟩ := find_some h
  obtain ⟨hl, hw⟩ := over_width ho
  rw [e]
  obtain ⟨l, el, a, b⟩ := find_order h1 31 lo hi [] hl hw h0
  have el' : (findR p lo hi least).1 = l := by unfold findR; simpa using el
  rw [el']
  refine ⟨fun i s hs => a s (List.mem_of_getElem? hs), fun i s t hs ht => ?_⟩
  obtain ⟨i1, rfl⟩ := List.getElem?_eq_some_iff.1 hs
  obtain ⟨i2, rfl⟩ := List.getElem?_eq_some_iff.1 ht
  exact List.pairwise_iff_getElem.1 b i (i + 1) i1 i2 (by omega)
/-- Is a number in one of the first k? -/
def inL (l : List (Int × Int)) (n : Int) : Nat → Bool
  | 0 => false
  | k + 1 => inL l n k || (decide ((l[k]?.getD (0, 0)).1 ≤ n) && decide (n ≤ (l[k]?.getD (0, 0)).2))
theorem inL_succ (l : List (Int × Int)) (n : Int) (k : Nat) : inL l n (k + 1) = (inL l n k || (decide ((l[k]?.getD (0, 0)).1 ≤ n) && decide (n ≤ (l[k]?.getD (0, 0)).2))) := rfl
theorem inL_of {l : List (Int × Int)} {n : Int} : ∀ {k i : Nat} {s : Int × Int}, i < k → l[i]? = some s → s.1 ≤ n → n ≤ s.2 → inL l n k = true
  | 0, _, _, h, _, _, _ => absurd h (Nat.not_lt_zero _)
  | k + 1, i, s, h, hs, h1, h2 => by
    rw [inL_succ]
    rcases (by omega : i < k ∨ i = k) with q | rfl
    · rw [inL_of q hs h1 h2]; rfl
    · rw [hs]; simp [h1, h2]
/-- Where it is nought it may be, and is in one of what is told. -/
theorem nought_may {p : List Int} {lo hi n : Int} (h : (monoAll p lo hi).2.2 = 0) (h1 : lo ≤ n) (h2 : n ≤ hi) (he : exN n p p.length = 0) : mayB p lo hi = true := by
  obtain ⟨ho, e, h0⟩ := all_over h
  have := root_in ho he lo hi (Int.le_refl _) h1 h2 (Int.le_refl _) h0
  unfold rangeOf at this
  unfold mayB
  rw [e]
  simp [h0, this.1, this.2]
theorem nought_in {p : List Int} {lo hi least n : Int} (h : (findAll p lo hi least).2 = 0) (h1 : lo ≤ n) (h2 : n ≤ hi) (he : exN n p p.length = 0) : inL (findAll p lo hi least).1 n (findAll p lo hi least).1.length = true := by
  obtain ⟨ho, l1, l2, e, h0⟩ := find_some h
  obtain ⟨hl, hw⟩ := over_width ho
  rw [e]
  obtain ⟨q, hq, q1, q2⟩ := find_has l1 31 lo hi [] (root_in ho he) h1 h2 hw h0
  obtain ⟨i, hi', rfl⟩ := List.getElem_of_mem hq
  exact inL_of hi' (List.getElem?_eq_getElem hi') q1 q2
/-- Where one is sure to be one is told; where it may not be none is. -/
theorem sure_some {p : List Int} {lo hi least : Int} (h : (findAll p lo hi least).2 = 0) (hs : sureB p lo hi = true) : 0 < (findAll p lo hi least).1.length := by
  obtain ⟨ho, l1, l2, e, h0⟩ := find_some h
  obtain ⟨hl, hw⟩ := over_width ho
  unfold sureB at hs
  simp only [Bool.and_eq_true, decide_eq_true_eq] at hs
  obtain ⟨hm, hs⟩ := hs
  obtain ⟨_, e2, hm⟩ := all_over hm
  obtain ⟨hp, hc⟩ := over_ok.1 ho
  have hp' := pchk_ok.1 hp
  have hh := (best_ok (mono_ok hm).1).1
  have a := (horn_in (Int.le_refl lo) (Int.le_refl lo) hl p hp'.1 hp'.2.2 hh).1
  have b := (horn_in hl (Int.le_refl hi) (Int.le_refl hi) p hp'.1 hp'.2.2 hh).1
  have := root_sure ho l1 hw hm a b hs h0
  rw [e]
  exact List.length_pos_iff.2 this
theorem may_none {p : List Int} {lo hi least : Int} (hm : (monoAll p lo hi).2.2 = 0) (h : (findAll p lo hi least).2 = 0) (hn : mayB p lo hi = false) : (findAll p lo hi least).1.length = 0 := by
  obtain ⟨ho, l1, l2, e, h0⟩ := find_some h
  obtain ⟨_, e2, hm'⟩ := all_over hm
  have hz : ¬ ((rangeOf p lo hi).1 ≤ 0 ∧ 0 ≤ (rangeOf p lo hi).2.1) := by
    intro c
    unfold mayB at hn
    rw [e2] at hn
    unfold rangeOf at c
    simp [hm', c.1, c.2] at hn
  rw [e]
  unfold findR
  rw [find_none hm' hz]; rfl
/-- Of the line that is nought at n. -/
theorem line_over {n lo hi : Int} (h1 : -100000 ≤ n) (h2 : n ≤ 100000) (hc : chk lo hi = 0) : over [-n, 1000] lo hi = 0 := by
  refine over_ok.2 ⟨pchk_ok.2 ⟨by simp, by simp, ?_⟩, hc⟩
  intro c hm
  rcases List.mem_cons.1 hm with rfl | hm
  · exact (may_iff _).2 (by omega)
  · obtain rfl := List.mem_singleton.1 hm
    decide
theorem line_chk {lo hi : Int} (h1 : -200000 ≤ lo) (h2 : lo ≤ hi) (h3 : hi ≤ 200001) : chk lo hi = 0 :=
  chk_ok.2 ⟨(may_iff _).2 (by omega), (may_iff _).2 (by omega), h2⟩
theorem line_range {n lo hi : Int} (h1 : -100000 ≤ n) (h2 : n ≤ 100000) (g1 : -200000 ≤ lo) (g2 : lo ≤ hi) (g3 : hi ≤ 200001) : rangeOf [-n, 1000] lo hi = (lo - n, hi - n, 0) := by
  unfold rangeOf
  rw [line_mono (line_chk g1 g2 g3) ((may_iff _).2 (by omega)) ((may_iff _).2 (by omega)) ((may_iff _).2 (by omega))]
  rfl
theorem line_find {n least : Int} (h1 : -100000 ≤ n) (h2 : n ≤ 100000) (l1 : 1 ≤ least) (l2 : least ≤ 1000) :
    (findAll [-n, 1000] (-200000) 200001 least).2 = 0 ∧ (findAll [-n, 1000] (-200000) 200001 least).1.length ≤ 2 := by
  have ho := line_over h1 h2 (line_chk (Int.le_refl _) (by decide) (Int.le_refl _))
  rw [find_good ho l1 (by omega)]
  obtain ⟨l, e, a, _⟩ := find_line l1 (fun l h a b c => line_range h1 h2 a b c) 31 (-200000) 200001 [] (by decide) (by decide) (by decide) (by decide) (.inl (by simp))
  unfold findR
  rw [e]
  exact ⟨rfl, by simpa using a⟩
theorem line_nought (n : Int) : exN n [-n, 1000] ([-n, 1000] : List Int).length = 0 := by
  show exN n [-n, 1000] 2 = 0
  simp only [exN, Int.pow_zero, Int.pow_succ, List.getD_cons_zero, List.getD_cons_succ]
  omega
theorem line_sure {n : Int} (h1 : -100000 ≤ n) (h2 : n ≤ 100000) : (monoAll [-n, 1000] (-200000) 200001).2.2 = 0 ∧ sureB [-n, 1000] (-200000) 200001 = true := by
  have ho := line_over h1 h2 (line_chk (Int.le_refl _) (by decide) (Int.le_refl _))
  have e : monoAll [-n, 1000] (-200000) 200001 = (-200000 - n, 200001 - n, 0) := by
    unfold monoAll
    rw [if_pos ho]
    exact line_range h1 h2 (Int.le_refl _) (by decide) (Int.le_refl _)
  refine ⟨by rw [e], ?_⟩
  unfold sureB
  rw [e]
  simp only [Bool.and_eq_true, decide_eq_true_eq]
  refine ⟨trivial, ?_⟩
  unfold sureR
  rw [line_slope, line_horn (chk_alone (by decide)) ((may_iff _).2 (by omega)) ((may_iff _).2 (by omega)), line_horn (chk_alone (by decide)) ((may_iff _).2 (by omega)) ((may_iff _).2 (by omega))]
  simp only []
  omega
/-- Behind the range neither the slope nor an end fails. -/
theorem sure_parts {p : List Int} {lo hi : Int} (h : (monoAll p lo hi).2.2 = 0) : slopeAll p lo hi = slopeR lo hi p ∧ (slopeR lo hi p).2.2 = 0 ∧ hornAll p lo lo = hornR lo lo p ∧ (hornR lo lo p).2.2 = 0 ∧ hornAll p hi hi = hornR hi hi p ∧ (hornR hi hi p).2.2 = 0 := by
  obtain ⟨ho, _, h0⟩ := all_over h
  obtain ⟨hp, hc⟩ := over_ok.1 ho
  obtain ⟨m1, m2, hl⟩ := chk_ok.1 hc
  have hp' := pchk_ok.1 hp
  obtain ⟨hb, hs⟩ := mono_ok h0
  have hh := (best_ok hb).1
  refine ⟨?_, hs, ?_, (horn_in (Int.le_refl lo) (Int.le_refl lo) hl p hp'.1 hp'.2.2 hh).1, ?_, (horn_in hl (Int.le_refl hi) (Int.le_refl hi) p hp'.1 hp'.2.2 hh).1⟩
  · unfold slopeAll; rw [if_pos ho]
  · unfold hornAll; rw [if_pos (over_ok.2 ⟨hp, chk_alone m1⟩)]
  · unfold hornAll; rw [if_pos (over_ok.2 ⟨hp, chk_alone m2⟩)]
theorem sure_is {p : List Int} {lo hi : Int} (h : (monoAll p lo hi).2.2 = 0) : sureB p lo hi = (!(decide ((slopeR lo hi p).1 ≤ 0) && decide (0 ≤ (slopeR lo hi p).2.1)) &&
    ((decide (0 ≤ (hornR lo lo p).1) && decide ((hornR hi hi p).2.1 ≤ 0)) || (decide (0 ≤ (hornR hi hi p).1) && decide ((hornR lo lo p).2.1 ≤ 0)))) := by
  unfold sureB sureR
  rw [h]
  by_cases a1 : (slopeR lo hi p).1 ≤ 0 <;> by_cases a2 : 0 ≤ (slopeR lo hi p).2.1 <;> by_cases a3 : 0 ≤ (hornR lo lo p).1 <;> by_cases a4 : (hornR hi hi p).2.1 ≤ 0 <;> by_cases a5 : 0 ≤ (hornR hi hi p).1 <;> by_cases a6 : (hornR lo lo p).2.1 ≤ 0 <;> simp [a1, a2, a3, a4, a5, a6]
theorem find_fact : findAll [-2000, 1000] 0 8000 1000 = ([(1000, 2000), (2000, 3000)], 0) := by decide +kernel
end Um
