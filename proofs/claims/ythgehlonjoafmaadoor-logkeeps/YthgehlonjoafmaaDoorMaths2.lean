/-
  Plain arithmetic of boxes, no program: what is wrong with one, and with two; whether one is within another one, has numbers; their hull, what both have; the halves of one.
  Plain arithmetic of polynomials of some unknowns, no program: what is wrong with one; its range over a box; what it is at numbers; that this is in the range, and that over a box within the range is within.
  Plain arithmetic of systems, no program: what is wrong with one; what may be behind a box, and behind a point; that no point falls out; that behind a box within it is within; step by step.
  Plain arithmetic of a box in pieces, and of one that is never left, no program: all pieces are within, nothing falls between; a step of all of them is within a step of the whole; what grows till it holds.
  Plain arithmetic of what goes together, no program: of three spans of which two are the third one, added up, or times each other; that numbers which go together stay, and that where nothing is told there are none.
  Plain arithmetic of coming closer, no program: how a polynomial of some unknowns changes by one of them; that two points of a box are no further apart behind a step than the bound says (Simpson's rule, unknown by unknown).
  Plain arithmetic of coming closer, further: how a polynomial changes by an unknown, and how far apart two points are behind it.
-/
import Derived.Test.YthgehlonjoafmaaDoorMaths
namespace Um
set_option linter.unusedSimpArgs false

def sd (b : List (Int × Int)) (i : Nat) : Int × Int := b[i]?.getD (0, 0)
def nm (x : List Int) (i : Nat) : Int := x[i]?.getD 0
theorem sd_some {b : List (Int × Int)} {i : Nat} (h : i < b.length) : b[i]? = some (sd b i) := by unfold sd; rw [List.getElem?_eq_getElem h]; rfl
theorem sd_mem {b : List (Int × Int)} {i : Nat} (h : i < b.length) : sd b i ∈ b := by unfold sd; rw [List.getElem?_eq_getElem h]; exact List.getElem_mem h
theorem sd_ext {a b : List (Int × Int)} (hl : a.length = b.length) (h : ∀ i, i < a.length → sd a i = sd b i) : a = b := by
  apply List.ext_getElem? 
  intro i
  by_cases c : i < a.length
  · rw [sd_some c, sd_some (by omega), h i c]
  · rw [List.getElem?_eq_none (by omega), List.getElem?_eq_none (by omega)]

/-- The first fault, side by side. -/
def sidesF : List (Int × Int) → Int
  | [] => 0
  | s :: l => if chk s.1 s.2 = 0 then sidesF l else chk s.1 s.2
theorem sides_ok : ∀ {b : List (Int × Int)}, sidesF b = 0 ↔ ∀ s ∈ b, chk s.1 s.2 = 0
  | [] => by simp [sidesF]
  | s :: l => by
    unfold sidesF
    by_cases h : chk s.1 s.2 = 0
    · rw [if_pos h, sides_ok]
      simp [h]
    · rw [if_neg h]
      exact ⟨fun e => absurd e h, fun e => absurd (e s (by simp)) h⟩
theorem sides_first : ∀ {b : List (Int × Int)} {k : Nat}, k < b.length → (∀ j, j < k → chk (sd b j).1 (sd b j).2 = 0) → ¬ chk (sd b k).1 (sd b k).2 = 0 → sidesF b = chk (sd b k).1 (sd b k).2
  | [], _, h, _, _ => absurd h (Nat.not_lt_zero _)
  | s :: l, 0, _, _, h => by
    have h' : ¬ chk s.1 s.2 = 0 := h
    unfold sidesF; rw [if_neg h']; rfl
  | s :: l, k + 1, hk, hj, h => by
    have h0 : chk s.1 s.2 = 0 := hj 0 (by omega)
    unfold sidesF
    rw [if_pos h0]
    exact sides_first (b := l) (k := k) (by simpa using hk) (fun j hj' => hj (j + 1) (by omega)) h
def boxF (b : List (Int × Int)) : Int := if b = [] then 5 else if 3 < b.length then 4 else sidesF b
theorem box_ok {b : List (Int × Int)} : boxF b = 0 ↔ b ≠ [] ∧ b.length ≤ 3 ∧ ∀ s ∈ b, chk s.1 s.2 = 0 := by
  unfold boxF
  by_cases h : b = []
  · rw [if_pos h]; exact ⟨fun e => absurd e (by decide), fun e => absurd h e.1⟩
  · rw [if_neg h]
    by_cases h2 : 3 < b.length
    · rw [if_pos h2]; exact ⟨fun e => absurd e (by decide), fun e => by omega⟩
    · rw [if_neg h2, sides_ok]; exact ⟨fun e => ⟨h, by omega, e⟩, fun e => e.2.2⟩
theorem box_of {b : List (Int × Int)} (h0 : 0 < b.length) (h3 : b.length ≤ 3) (h : ∀ i, i < b.length → chk (sd b i).1 (sd b i).2 = 0) : boxF b = 0 := by
  refine box_ok.2 ⟨fun e => by rw [e] at h0; exact absurd h0 (by decide), h3, fun s hs => ?_⟩
  obtain ⟨i, hi, rfl⟩ := List.getElem_of_mem hs
  have := h i hi
  unfold sd at this
  rw [List.getElem?_eq_getElem hi] at this
  exact this
theorem box_side {b : List (Int × Int)} (h : boxF b = 0) {i : Nat} (hi : i < b.length) : chk (sd b i).1 (sd b i).2 = 0 := (box_ok.1 h).2.2 _ (sd_mem hi)
theorem box_len {b : List (Int × Int)} (h : boxF b = 0) : 0 < b.length ∧ b.length ≤ 3 := ⟨List.length_pos_iff.2 (box_ok.1 h).1, (box_ok.1 h).2.1⟩
/-- Of two. -/
def boxesF (a b : List (Int × Int)) : Int := if boxF a = 0 then (if boxF b = 0 then (if a.length = b.length then 0 else 3) else boxF b) else boxF a
theorem boxes_ok {a b : List (Int × Int)} : boxesF a b = 0 ↔ boxF a = 0 ∧ boxF b = 0 ∧ a.length = b.length := by
  unfold boxesF
  by_cases h : boxF a = 0
  · rw [if_pos h]
    by_cases h2 : boxF b = 0
    · rw [if_pos h2]
      by_cases h3 : a.length = b.length
      · rw [if_pos h3]; exact ⟨fun _ => ⟨h, h2, h3⟩, fun _ => rfl⟩
      · rw [if_neg h3]; exact ⟨fun e => absurd e (by decide), fun e => absurd e.2.2 h3⟩
    · rw [if_neg h2]; exact ⟨fun e => absurd e h2, fun e => absurd e.2.1 h2⟩
  · rw [if_neg h]; exact ⟨fun e => absurd e h, fun e => absurd e.1 h⟩

/-- Has a box numbers? -/
abbrev hasP (b : List (Int × Int)) (x : List Int) : Prop := ∀ i, i < b.length → (sd b i).1 ≤ nm x i ∧ nm x i ≤ (sd b i).2
abbrev withinP (a b : List (Int × Int)) : Prop := ∀ i, i < a.length → (sd b i).1 ≤ (sd a i).1 ∧ (sd a i).2 ≤ (sd b i).2
/-- As Booleans. -/
def hasB (b : List (Int × Int)) (x : List Int) : Bool := decide (hasP b x)
def withinB (a b : List (Int × Int)) : Bool := decide (withinP a b)
def hasF (b : List (Int × Int)) (x : List Int) : Int := if boxF b = 0 then (if x.length = b.length then 0 else 3) else boxF b

/-- The hull of two, the first k sides. -/
def hullN (a b : List (Int × Int)) : Nat → List (Int × Int)
  | 0 => []
  | k + 1 => hullN a b k ++ [(min (sd a k).1 (sd b k).1, max (sd a k).2 (sd b k).2)]
theorem hull_succ (a b : List (Int × Int)) (k : Nat) : hullN a b (k + 1) = hullN a b k ++ [(min (sd a k).1 (sd b k).1, max (sd a k).2 (sd b k).2)] := rfl
theorem hull_length (a b : List (Int × Int)) : ∀ k, (hullN a b k).length = k
  | 0 => rfl
  | k + 1 => by rw [hull_succ, List.length_append, hull_length a b k]; rfl
theorem hull_side (a b : List (Int × Int)) : ∀ {k i : Nat}, i < k → sd (hullN a b k) i = (min (sd a i).1 (sd b i).1, max (sd a i).2 (sd b i).2)
  | 0, _, h => absurd h (Nat.not_lt_zero _)
  | k + 1, i, h => by
    have hl := hull_length a b k
    rcases (by omega : i < k ∨ i = k) with q | rfl
    · have := hull_side a b q
      unfold sd at this ⊢
      rw [hull_succ, List.getElem?_append_left (by omega)]
      exact this
    · show (hullN a b (i + 1))[i]?.getD (0, 0) = _
      rw [hull_succ, List.getElem?_append_right (by omega), hl]
      simp
theorem hull_box {a b : List (Int × Int)} (h : boxesF a b = 0) : boxF (hullN a b a.length) = 0 ∧ withinP a (hullN a b a.length) ∧ withinP b (hullN a b a.length) := by
  obtain ⟨ha, hb, hl⟩ := boxes_ok.1 h
  have la := box_len ha
  refine ⟨box_of (by rw [hull_length]; exact la.1) (by rw [hull_length]; exact la.2) (fun i hi => ?_), fun i hi => ?_, fun i hi => ?_⟩
  · rw [hull_length] at hi
    rw [hull_side a b hi]
    obtain ⟨p1, p2, p3⟩ := chk_ok.1 (box_side ha hi)
    obtain ⟨q1, q2, q3⟩ := chk_ok.1 (box_side hb (show i < b.length by omega))
    rw [may_iff] at p1 p2 q1 q2
    exact chk_ok.2 ⟨(may_iff _).2 (by omega), (may_iff _).2 (by omega), by show min _ _ ≤ max _ _; omega⟩
  · rw [hull_side a b hi]; show min _ _ ≤ _ ∧ _ ≤ max _ _; omega
  · rw [hull_side a b (show i < a.length by omega)]; show min _ _ ≤ _ ∧ _ ≤ max _ _; omega

/-- What both have, the first k sides; the fault. -/
def meetN (a b : List (Int × Int)) : Nat → List (Int × Int) × Int
  | 0 => ([], 0)
  | k + 1 => if (meetN a b k).2 = 0 then (if max (sd a k).1 (sd b k).1 ≤ min (sd a k).2 (sd b k).2 then ((meetN a b k).1 ++ [(max (sd a k).1 (sd b k).1, min (sd a k).2 (sd b k).2)], 0) else ([], 5)) else ([], 5)
theorem meetN_succ (a b : List (Int × Int)) (k : Nat) : meetN a b (k + 1) = if (meetN a b k).2 = 0 then (if max (sd a k).1 (sd b k).1 ≤ min (sd a k).2 (sd b k).2 then ((meetN a b k).1 ++ [(max (sd a k).1 (sd b k).1, min (sd a k).2 (sd b k).2)], 0) else ([], 5)) else ([], 5) := rfl
theorem meetN_fault (a b : List (Int × Int)) (k : Nat) : (meetN a b k).2 = 0 ∨ meetN a b k = ([], 5) := by
  cases k with
  | zero => exact .inl rfl
  | succ k =>
    rw [meetN_succ]
    split
    · split
      · exact .inl rfl
      · exact .inr rfl
    · exact .inr rfl
theorem meetN_next {a b : List (Int × Int)} {k : Nat} (h : (meetN a b k).2 = 0) (h2 : max (sd a k).1 (sd b k).1 ≤ min (sd a k).2 (sd b k).2) : meetN a b (k + 1) = ((meetN a b k).1 ++ [(max (sd a k).1 (sd b k).1, min (sd a k).2 (sd b k).2)], 0) := by
  rw [meetN_succ, if_pos h, if_pos h2]
theorem meetN_stay {a b : List (Int × Int)} {k : Nat} (h : ¬ (meetN a b k).2 = 0) : ∀ j, meetN a b (k + j) = ([], 5)
  | 0 => (meetN_fault a b k).resolve_left h
  | j + 1 => by rw [show k + (j + 1) = k + j + 1 from rfl, meetN_succ, meetN_stay h j, if_neg (by decide)]
theorem meetN_bad {a b : List (Int × Int)} {k n : Nat} (hk : k < n) (h2 : ¬ max (sd a k).1 (sd b k).1 ≤ min (sd a k).2 (sd b k).2) : meetN a b n = ([], 5) := by
  have e : meetN a b (k + 1) = ([], 5) := by
    rw [meetN_succ]
    split
    · rfl
    · rfl
  have := meetN_stay (a := a) (b := b) (k := k + 1) (by rw [e]; decide) (n - (k + 1))
  rwa [show k + 1 + (n - (k + 1)) = n by omega] at this
theorem meetN_ok {a b : List (Int × Int)} : ∀ {k : Nat}, (meetN a b k).2 = 0 → (meetN a b k).1.length = k ∧ ∀ i, i < k → max (sd a i).1 (sd b i).1 ≤ min (sd a i).2 (sd b i).2 ∧ sd (meetN a b k).1 i = (max (sd a i).1 (sd b i).1, min (sd a i).2 (sd b i).2)
  | 0, _ => ⟨rfl, fun i h => absurd h (Nat.not_lt_zero _)⟩
  | k + 1, h => by
    have h1 : (meetN a b k).2 = 0 := by
      rcases (meetN_fault a b k) with e | e
      · exact e
      · rw [meetN_succ, e, if_neg (by decide)] at h; exact absurd h (by decide)
    have h2 : max (sd a k).1 (sd b k).1 ≤ min (sd a k).2 (sd b k).2 := by
      rcases Classical.em (max (sd a k).1 (sd b k).1 ≤ min (sd a k).2 (sd b k).2) with e | e
      · exact e
      · rw [meetN_succ, if_pos h1, if_neg e] at h; exact absurd h (by decide)
    obtain ⟨hl, hi⟩ := meetN_ok (k := k) h1
    rw [meetN_next h1 h2]
    refine ⟨by rw [List.length_append, hl]; rfl, fun i hk => ?_⟩
    rcases (by omega : i < k ∨ i = k) with q | rfl
    · obtain ⟨u, v⟩ := hi i q
      refine ⟨u, ?_⟩
      unfold sd at v ⊢
      rw [List.getElem?_append_left (by omega)]
      exact v
    · refine ⟨h2, ?_⟩
      show ((meetN a b i).1 ++ [_])[i]?.getD (0, 0) = _
      rw [List.getElem?_append_right (by omega), hl]
      simp
theorem meet_box {a b : List (Int × Int)} (h : boxesF a b = 0) (hm : (meetN a b a.length).2 = 0) : boxF (meetN a b a.length).1 = 0 := by
  obtain ⟨ha, hb, hl⟩ := boxes_ok.1 h
  obtain ⟨l, g⟩ := meetN_ok hm
  have la := box_len ha
  refine box_of (by rw [l]; exact la.1) (by rw [l]; exact la.2) (fun i hi => ?_)
  rw [l] at hi
  obtain ⟨u, v⟩ := g i hi
  rw [v]
  obtain ⟨p1, p2, p3⟩ := chk_ok.1 (box_side ha hi)
  obtain ⟨q1, q2, q3⟩ := chk_ok.1 (box_side hb (show i < b.length by omega))
  rw [may_iff] at p1 p2 q1 q2
  exact chk_ok.2 ⟨(may_iff _).2 (by omega), (may_iff _).2 (by omega), u⟩
/-- What both of two have just what they meet in has. -/
theorem meet_has {a b : List (Int × Int)} {x : List Int} (hl : a.length = b.length) (hm : (meetN a b a.length).2 = 0) : hasP (meetN a b a.length).1 x ↔ hasP a x ∧ hasP b x := by
  obtain ⟨l, g⟩ := meetN_ok hm
  unfold hasP
  rw [l]
  constructor
  · intro h
    refine ⟨fun i hi => ?_, fun i hi => ?_⟩
    · obtain ⟨_, v⟩ := g i hi
      have := h i hi
      rw [v] at this
      simp only at this
      omega
    · obtain ⟨_, v⟩ := g i (by omega)
      have := h i (by omega)
      rw [v] at this
      simp only at this
      omega
  · rintro ⟨h1, h2⟩ i hi
    obtain ⟨_, v⟩ := g i hi
    rw [v]
    have := h1 i hi
    have := h2 i (by omega)
    show max _ _ ≤ _ ∧ _ ≤ min _ _
    omega
theorem meet_none {a b : List (Int × Int)} {x : List Int} (hl : a.length = b.length) (hm : ¬ (meetN a b a.length).2 = 0) : ¬ (hasP a x ∧ hasP b x) := by
  rintro ⟨h1, h2⟩
  have key : ∀ k, k ≤ a.length → (meetN a b k).2 = 0 := by
    intro k
    induction k with
    | zero => intro _; rfl
    | succ k ih =>
      intro hk
      have := h1 k (by omega)
      have := h2 k (by omega)
      rw [meetN_next (ih (by omega)) (by omega)]
  exact hm (key _ (Nat.le_refl _))

/-- The widest side, of several the first, of the first k and one. -/
def wideN (b : List (Int × Int)) : Nat → Nat
  | 0 => 0
  | k + 1 => if (sd b (wideN b k)).2 - (sd b (wideN b k)).1 < (sd b (k + 1)).2 - (sd b (k + 1)).1 then k + 1 else wideN b k
theorem wide_succ (b : List (Int × Int)) (k : Nat) : wideN b (k + 1) = if (sd b (wideN b k)).2 - (sd b (wideN b k)).1 < (sd b (k + 1)).2 - (sd b (k + 1)).1 then k + 1 else wideN b k := rfl
theorem wide_le (b : List (Int × Int)) : ∀ k, wideN b k ≤ k
  | 0 => Nat.le_refl _
  | k + 1 => by
    rw [wide_succ]
    split
    · exact Nat.le_refl _
    · have := wide_le b k; omega
def wide (b : List (Int × Int)) : Nat := wideN b (b.length - 1)
theorem wide_lt {b : List (Int × Int)} (h : 0 < b.length) : wide b < b.length := by
  have := wide_le b (b.length - 1)
  unfold wide
  omega
def midOf (b : List (Int × Int)) : Int := midR (sd b (wide b)).1 (sd b (wide b)).2
def halfA (b : List (Int × Int)) : List (Int × Int) := b.set (wide b) ((sd b (wide b)).1, midOf b)
def halfB (b : List (Int × Int)) : List (Int × Int) := b.set (wide b) (midOf b, (sd b (wide b)).2)
theorem sd_set {b : List (Int × Int)} {w i : Nat} {s : Int × Int} (hi : i < b.length) : sd (b.set w s) i = if i = w then s else sd b i := by
  unfold sd
  by_cases h : i = w
  · subst h; rw [if_pos rfl, List.getElem?_set_self hi]; rfl
  · rw [if_neg h, List.getElem?_set_ne (fun e => h e.symm)]
theorem halfA_len (b : List (Int × Int)) : (halfA b).length = b.length := by unfold halfA; rw [List.length_set]
theorem halfB_len (b : List (Int × Int)) : (halfB b).length = b.length := by unfold halfB; rw [List.length_set]
theorem mid_in {b : List (Int × Int)} (h : boxF b = 0) : (sd b (wide b)).1 ≤ midOf b ∧ midOf b ≤ (sd b (wide b)).2 := by
  have := mid_has (chk_ok.1 (box_side h (wide_lt (box_len h).1))).2.2
  exact ⟨this.1, this.2.1⟩
theorem half_box {b : List (Int × Int)} (h : boxF b = 0) : boxF (halfA b) = 0 ∧ boxF (halfB b) = 0 := by
  have hl := box_len h
  have hm := mid_in h
  have hw := wide_lt hl.1
  obtain ⟨c1, c2, c3⟩ := chk_ok.1 (box_side h hw)
  have mm := may_between c1 c2 hm.1 hm.2
  refine ⟨box_of (by rw [halfA_len]; exact hl.1) (by rw [halfA_len]; exact hl.2) (fun i hi => ?_), box_of (by rw [halfB_len]; exact hl.1) (by rw [halfB_len]; exact hl.2) (fun i hi => ?_)⟩
  · rw [halfA_len] at hi
    unfold halfA
    rw [sd_set hi]
    by_cases e : i = wide b
    · rw [if_pos e]; exact chk_ok.2 ⟨c1, mm, hm.1⟩
    · rw [if_neg e]; exact box_side h hi
  · rw [halfB_len] at hi
    unfold halfB
    rw [sd_set hi]
    by_cases e : i = wide b
    · rw [if_pos e]; exact chk_ok.2 ⟨mm, c2, hm.2⟩
    · rw [if_neg e]; exact box_side h hi
/-- Two halves have all, and no more. -/
theorem half_has {b : List (Int × Int)} {x : List Int} (h : boxF b = 0) : hasP b x ↔ hasP (halfA b) x ∨ hasP (halfB b) x := by
  have hm := mid_in h
  have hw := wide_lt (box_len h).1
  unfold hasP
  rw [halfA_len, halfB_len]
  have ea : ∀ i, i < b.length → sd (halfA b) i = if i = wide b then ((sd b (wide b)).1, midOf b) else sd b i := fun i hi => sd_set hi
  have eb : ∀ i, i < b.length → sd (halfB b) i = if i = wide b then (midOf b, (sd b (wide b)).2) else sd b i := fun i hi => sd_set hi
  constructor
  · intro g
    rcases Int.le_total (nm x (wide b)) (midOf b) with c | c
    · left
      intro i hi
      rw [ea i hi]
      by_cases e : i = wide b
      · subst e; rw [if_pos rfl]; exact ⟨(g _ hi).1, c⟩
      · rw [if_neg e]; exact g i hi
    · right
      intro i hi
      rw [eb i hi]
      by_cases e : i = wide b
      · subst e; rw [if_pos rfl]; exact ⟨c, (g _ hi).2⟩
      · rw [if_neg e]; exact g i hi
  · rintro (g | g) i hi
    · have := g i hi
      rw [ea i hi] at this
      by_cases e : i = wide b
      · subst e; rw [if_pos rfl] at this; simp only at this; omega
      · rw [if_neg e] at this; exact this
    · have := g i hi
      rw [eb i hi] at this
      by_cases e : i = wide b
      · subst e; rw [if_pos rfl] at this; simp only at this; omega
      · rw [if_neg e] at this; exact this
theorem half_hull {b : List (Int × Int)} (h : boxF b = 0) : hullN (halfA b) (halfB b) b.length = b := by
  have hm := mid_in h
  refine sd_ext (hull_length _ _ _) (fun i hi => ?_)
  rw [hull_length] at hi
  rw [hull_side _ _ hi]
  have c := (chk_ok.1 (box_side h hi)).2.2
  have ea : sd (halfA b) i = if i = wide b then ((sd b (wide b)).1, midOf b) else sd b i := sd_set hi
  have eb : sd (halfB b) i = if i = wide b then (midOf b, (sd b (wide b)).2) else sd b i := sd_set hi
  rw [ea, eb]
  by_cases e : i = wide b
  · subst e
    rw [if_pos rfl, if_pos rfl]
    refine Prod.ext ?_ ?_
    · show min _ _ = _; omega
    · show max _ _ = _; omega
  · rw [if_neg e, if_neg e]
    refine Prod.ext ?_ ?_
    · show min _ _ = _; omega
    · show max _ _ = _; omega
/-- A box of one point is halved into itself. -/
theorem half_point {b : List (Int × Int)} (h : boxF b = 0) (hp : ∀ i, i < b.length → (sd b i).1 = (sd b i).2) : halfA b = b ∧ halfB b = b := by
  have hm := mid_in h
  have hw := wide_lt (box_len h).1
  have e := hp _ hw
  refine ⟨sd_ext (halfA_len b) (fun i hi => ?_), sd_ext (halfB_len b) (fun i hi => ?_)⟩
  · rw [halfA_len] at hi
    unfold halfA
    rw [sd_set hi]
    by_cases c : i = wide b
    · subst c; rw [if_pos rfl]; exact Prod.ext rfl (by show midOf b = _; omega)
    · rw [if_neg c]
  · rw [halfB_len] at hi
    unfold halfB
    rw [sd_set hi]
    by_cases c : i = wide b
    · subst c; rw [if_pos rfl]; exact Prod.ext (by show midOf b = _; omega) rfl
    · rw [if_neg c]
end Um
namespace Um
set_option linter.unusedSimpArgs false

/-! Powers over a span within. -/
theorem ag_up {m n : Int} (hm : 0 ≤ m) (hmn : m ≤ n) : ∀ k : Nat, (agR n k).2.2 = 0 → (agR m k).2.2 = 0 ∧ (agR m k).1 ≤ (agR n k).1 ∧ (agR m k).2.1 ≤ (agR n k).2.1
  | 0, _ => ⟨rfl, Int.le_refl _, Int.le_refl _⟩
  | k + 1, h => by
    obtain ⟨h1, h2, e⟩ := ag_step h
    obtain ⟨i0, i1, i2⟩ := ag_up hm hmn k h1
    have r := ag_right hm k i0
    have r' := ag_right (Int.le_trans hm hmn) k h1
    have u1 : (agR m k).1 * m ≤ (agR n k).1 * n := Int.mul_le_mul i1 hmn hm r'.1
    have u2 : (agR m k).2.1 * m ≤ (agR n k).2.1 * n := Int.mul_le_mul i2 hmn hm (by omega)
    have c := ce_mono (d := 1000) (by decide) u2
    have f := fl_mono (d := 1000) (by decide) u1
    have nn := Int.mul_nonneg (by omega : 0 ≤ (agR m k).2.1) hm
    have c0 : 0 ≤ ce ((agR m k).2.1 * m) 1000 := le_ce_zero (by decide) nn
    have mm : may (ce ((agR m k).2.1 * m) 1000) = true := (may_iff _).2 (by have := (may_iff _).1 h2; omega)
    have e' : agR m (k + 1) = (fl ((agR m k).1 * m) 1000, ce ((agR m k).2.1 * m) 1000, 0) := by rw [ag_succ, if_pos i0, if_pos mm]
    rw [e, e']
    exact ⟨rfl, f, c⟩
theorem end_sign {n : Int} {k : Nat} (h : (endR n k).2.2 = 0) : (0 ≤ n → 0 ≤ (endR n k).1) ∧ (n < 0 → (endR n k).2.1 ≤ 0) := by
  unfold endR at h ⊢
  by_cases c : 0 ≤ n
  · rw [if_pos c] at h ⊢
    exact ⟨fun _ => (ag_right c k h).1, fun g => by omega⟩
  · rw [if_neg c] at h ⊢
    have h' : (agR (-n) k).2.2 = 0 := h
    have := (ag_right (show 0 ≤ -n by omega) k h').1
    exact ⟨fun g => absurd g c, fun _ => by show -(agR (-n) k).1 ≤ 0; omega⟩
theorem end_order {n : Int} {k : Nat} (h : (endR n k).2.2 = 0) : (endR n k).1 ≤ (endR n k).2.1 := by
  unfold endR at h ⊢
  by_cases c : 0 ≤ n
  · rw [if_pos c] at h ⊢; exact (ag_right c k h).2.1
  · rw [if_neg c] at h ⊢
    have h' : (agR (-n) k).2.2 = 0 := h
    have := (ag_right (show 0 ≤ -n by omega) k h').2.1
    show -(agR (-n) k).2.1 ≤ -(agR (-n) k).1
    omega
/-- An end between two that are told is told, between them. -/
theorem end_between {l n h : Int} {k : Nat} (h1 : l ≤ n) (h2 : n ≤ h) (hl : (endR l k).2.2 = 0) (hh : (endR h k).2.2 = 0) : (endR n k).2.2 = 0 ∧ (endR l k).1 ≤ (endR n k).1 ∧ (endR n k).2.1 ≤ (endR h k).2.1 := by
  have ol := end_order hl
  have oh := end_order hh
  by_cases c : 0 ≤ n
  · have en : endR n k = agR n k := by unfold endR; rw [if_pos c]
    have eh : endR h k = agR h k := by unfold endR; rw [if_pos (by omega)]
    rw [eh] at hh
    obtain ⟨a, b, d⟩ := ag_up c h2 k hh
    have r := ag_right c k a
    rw [en, eh]
    refine ⟨a, ?_, d⟩
    by_cases cl : 0 ≤ l
    · have el : endR l k = agR l k := by unfold endR; rw [if_pos cl]
      rw [el]
      exact (ag_up cl h1 k a).2.1
    · have := (end_sign hl).2 (by omega)
      omega
  · have en : endR n k = (-(agR (-n) k).2.1, -(agR (-n) k).1, (agR (-n) k).2.2) := by unfold endR; rw [if_neg c]
    have el : endR l k = (-(agR (-l) k).2.1, -(agR (-l) k).1, (agR (-l) k).2.2) := by unfold endR; rw [if_neg (by omega)]
    rw [el] at hl
    have hl' : (agR (-l) k).2.2 = 0 := hl
    obtain ⟨a, b, d⟩ := ag_up (show 0 ≤ -n by omega) (show -n ≤ -l by omega) k hl'
    have r := ag_right (show 0 ≤ -n by omega) k a
    rw [en, el]
    refine ⟨a, by show -(agR (-l) k).2.1 ≤ -(agR (-n) k).2.1; omega, ?_⟩
    show -(agR (-n) k).1 ≤ (endR h k).2.1
    by_cases ch : 0 ≤ h
    · have := (end_sign hh).1 ch
      omega
    · have eh : endR h k = (-(agR (-h) k).2.1, -(agR (-h) k).1, (agR (-h) k).2.2) := by unfold endR; rw [if_neg ch]
      rw [eh]
      show -(agR (-n) k).1 ≤ -(agR (-h) k).1
      have := (ag_up (show 0 ≤ -h by omega) (show -h ≤ -n by omega) k a).2.1
      omega
theorem far_in {lo hi lo' hi' : Int} (h1 : lo ≤ lo') (h2 : lo' ≤ hi') (h3 : hi' ≤ hi) : (farR lo hi).1 ≤ (farR lo' hi').1 ∧ (farR lo' hi').2 ≤ (farR lo hi).2 := by
  unfold farR ab
  refine ⟨?_, ?_⟩
  · simp only []
    repeat' split
    all_goals omega
  · simp only []
    repeat' split
    all_goals omega
theorem both_of {a b : Int × Int × Int} (h1 : a.2.2 = 0) (h2 : b.2.2 = 0) : both a b = (a.1, b.2.1, 0) := by unfold both; rw [if_pos h1, if_pos h2]
/-- Over a span within it a power is within. -/
theorem pow_in {lo hi lo' hi' : Int} {k : Nat} (h1 : lo ≤ lo') (h2 : lo' ≤ hi') (h3 : hi' ≤ hi) (h : (powR lo hi k).2.2 = 0) :
    (powR lo' hi' k).2.2 = 0 ∧ (powR lo hi k).1 ≤ (powR lo' hi' k).1 ∧ (powR lo' hi' k).2.1 ≤ (powR lo hi k).2.1 := by
  unfold powR at h ⊢
  by_cases hk : k % 2 = 0
  · rw [if_pos hk] at h ⊢
    rw [if_pos hk]
    obtain ⟨k1, k2, e⟩ := both_ok h
    have f := far_in h1 h2 h3
    have r := far_right (show lo ≤ hi by omega)
    have r' := far_right h2
    obtain ⟨a1, a2, a3⟩ := ag_up (by omega) f.2 k k2
    obtain ⟨b1, b2, b3⟩ := ag_up r'.1 r'.2 k a1
    obtain ⟨c1, c2, c3⟩ := ag_up r.1 f.1 k b1
    rw [e, both_of b1 a1]
    exact ⟨rfl, c2, a3⟩
  · rw [if_neg hk] at h ⊢
    rw [if_neg hk]
    obtain ⟨k1, k2, e⟩ := both_ok h
    obtain ⟨a1, a2, a3⟩ := end_between h1 (show lo' ≤ hi by omega) k1 k2
    obtain ⟨b1, b2, b3⟩ := end_between (show lo ≤ hi' by omega) h3 k1 k2
    rw [e, both_of a1 b1]
    exact ⟨rfl, a2, b3⟩

/-! Terms. -/
abbrev Tm := Int × Int × Int × Int
def tmT (t : Tm) (k : Nat) : Int := if k = 0 then t.2.1 else if k = 1 then t.2.2.1 else t.2.2.2
/-- May it be, and so often? -/
abbrev tmP (t : Tm) : Prop := may t.1 = true ∧ (0 ≤ t.2.1 ∧ t.2.1 ≤ 3) ∧ (0 ≤ t.2.2.1 ∧ t.2.2.1 ≤ 3) ∧ (0 ≤ t.2.2.2 ∧ t.2.2.2 ≤ 3) ∧ t.2.1 + t.2.2.1 + t.2.2.2 ≤ 3
abbrev tmO (t : Tm) (sides : Int) : Prop := (sides ≤ 1 ∧ 0 < t.2.2.1) ∨ (sides ≤ 2 ∧ 0 < t.2.2.2)
def termF (t : Tm) (sides : Int) : Int := if tmP t then (if tmO t sides then 3 else 0) else 1
def termsF (sides : Int) : List Tm → Int
  | [] => 0
  | t :: l => if termF t sides = 0 then termsF sides l else termF t sides
def formF (f : List Tm) (sides : Int) : Int := if 1 ≤ sides ∧ sides ≤ 3 then (if 6 < f.length then 4 else termsF sides f) else 1
def tm (f : List Tm) (i : Nat) : Tm := f[i]?.getD (0, 0, 0, 0)
theorem tm_mem {f : List Tm} {i : Nat} (h : i < f.length) : tm f i ∈ f := by unfold tm; rw [List.getElem?_eq_getElem h]; exact List.getElem_mem h
theorem term_ok {t : Tm} {sides : Int} : termF t sides = 0 ↔ tmP t ∧ ¬ tmO t sides := by
  unfold termF
  by_cases h : tmP t
  · rw [if_pos h]
    by_cases h2 : tmO t sides
    · rw [if_pos h2]; exact ⟨fun e => absurd e (by decide), fun e => absurd h2 e.2⟩
    · rw [if_neg h2]; exact ⟨fun _ => ⟨h, h2⟩, fun _ => rfl⟩
  · rw [if_neg h]; exact ⟨fun e => absurd e (by decide), fun e => absurd e.1 h⟩
theorem terms_ok {sides : Int} : ∀ {f : List Tm}, termsF sides f = 0 ↔ ∀ t ∈ f, termF t sides = 0
  | [] => by simp [termsF]
  | t :: l => by
    unfold termsF
    by_cases h : termF t sides = 0
    · rw [if_pos h, terms_ok]; simp [h]
    · rw [if_neg h]
      exact ⟨fun e => absurd e h, fun e => absurd (e t (by simp)) h⟩
theorem terms_first {sides : Int} : ∀ {f : List Tm} {k : Nat}, k < f.length → (∀ j, j < k → termF (tm f j) sides = 0) → ¬ termF (tm f k) sides = 0 → termsF sides f = termF (tm f k) sides
  | [], _, h, _, _ => absurd h (Nat.not_lt_zero _)
  | t :: l, 0, _, _, h => by
    have h' : ¬ termF t sides = 0 := h
    unfold termsF; rw [if_neg h']; rfl
  | t :: l, k + 1, hk, hj, h => by
    have h0 : termF t sides = 0 := hj 0 (by omega)
    unfold termsF
    rw [if_pos h0]
    exact terms_first (f := l) (k := k) (by simpa using hk) (fun j hj' => hj (j + 1) (by omega)) h
theorem form_ok {f : List Tm} {sides : Int} : formF f sides = 0 ↔ (1 ≤ sides ∧ sides ≤ 3) ∧ f.length ≤ 6 ∧ ∀ i, i < f.length → termF (tm f i) sides = 0 := by
  unfold formF
  by_cases h : 1 ≤ sides ∧ sides ≤ 3
  · rw [if_pos h]
    by_cases h2 : 6 < f.length
    · rw [if_pos h2]; exact ⟨fun e => absurd e (by decide), fun e => by omega⟩
    · rw [if_neg h2, terms_ok]
      refine ⟨fun e => ⟨h, by omega, fun i hi => e _ (tm_mem hi)⟩, fun e t ht => ?_⟩
      obtain ⟨i, hi, rfl⟩ := List.getElem_of_mem ht
      have := e.2.2 i hi
      unfold tm at this
      rw [List.getElem?_eq_getElem hi] at this
      exact this
  · rw [if_neg h]; exact ⟨fun e => absurd e (by decide), fun e => absurd e.1 h⟩
theorem tm_times {t : Tm} (h : tmP t) (k : Nat) : 0 ≤ tmT t k ∧ tmT t k ≤ 3 := by
  obtain ⟨_, a, b, c, _⟩ := h
  unfold tmT
  split
  · exact a
  · split
    · exact b
    · exact c

/-! The range. -/
/-- One term, the first k sides; the fault. -/
def prodN (t : Tm) (b : List (Int × Int)) : Nat → Int × Int × Int
  | 0 => (t.1, t.1, 0)
  | k + 1 => if (prodN t b k).2.2 = 0 then (if (powR (sd b k).1 (sd b k).2 (tmT t k).toNat).2.2 = 0 then
      stimesR (prodN t b k).1 (prodN t b k).2.1 (powR (sd b k).1 (sd b k).2 (tmT t k).toNat).1 (powR (sd b k).1 (sd b k).2 (tmT t k).toNat).2.1 else (0, 0, 4)) else (0, 0, 4)
theorem prod_succ (t : Tm) (b : List (Int × Int)) (k : Nat) : prodN t b (k + 1) = if (prodN t b k).2.2 = 0 then (if (powR (sd b k).1 (sd b k).2 (tmT t k).toNat).2.2 = 0 then
      stimesR (prodN t b k).1 (prodN t b k).2.1 (powR (sd b k).1 (sd b k).2 (tmT t k).toNat).1 (powR (sd b k).1 (sd b k).2 (tmT t k).toNat).2.1 else (0, 0, 4)) else (0, 0, 4) := rfl
theorem prod_step {t : Tm} {b : List (Int × Int)} {k : Nat} (h : (prodN t b (k + 1)).2.2 = 0) : (prodN t b k).2.2 = 0 ∧ (powR (sd b k).1 (sd b k).2 (tmT t k).toNat).2.2 = 0 ∧
    prodN t b (k + 1) = stimesR (prodN t b k).1 (prodN t b k).2.1 (powR (sd b k).1 (sd b k).2 (tmT t k).toNat).1 (powR (sd b k).1 (sd b k).2 (tmT t k).toNat).2.1 := by
  rw [prod_succ] at h ⊢
  by_cases h1 : (prodN t b k).2.2 = 0
  · rw [if_pos h1] at h ⊢
    by_cases h2 : (powR (sd b k).1 (sd b k).2 (tmT t k).toNat).2.2 = 0
    · rw [if_pos h2]; exact ⟨h1, h2, rfl⟩
    · rw [if_neg h2] at h; exact absurd h (by decide)
  · rw [if_neg h1] at h; exact absurd h (by decide)
theorem prod_fault (t : Tm) (b : List (Int × Int)) (k : Nat) : (prodN t b k).2.2 = 0 ∨ prodN t b k = (0, 0, 4) := by
  cases k with
  | zero => exact .inl rfl
  | succ k =>
    rw [prod_succ]
    split
    · split
      · exact stimes_fault _ _ _ _
      · exact .inr rfl
    · exact .inr rfl
theorem prod_stay {t : Tm} {b : List (Int × Int)} {k : Nat} (h : ¬ (prodN t b k).2.2 = 0) : ∀ j, prodN t b (k + j) = (0, 0, 4)
  | 0 => (prod_fault t b k).resolve_left h
  | j + 1 => by rw [show k + (j + 1) = k + j + 1 from rfl, prod_succ, prod_stay h j, if_neg (by decide)]
theorem prod_chk {t : Tm} {b : List (Int × Int)} (ht : tmP t) (hb : boxF b = 0) : ∀ {k : Nat}, k ≤ b.length → (prodN t b k).2.2 = 0 → chk (prodN t b k).1 (prodN t b k).2.1 = 0
  | 0, _, _ => chk_alone ht.1
  | k + 1, hk, h => by
    obtain ⟨h1, h2, e⟩ := prod_step h
    have i := chk_ok.1 (prod_chk ht hb (k := k) (by omega) h1)
    have tt := tm_times ht k
    have p := chk_ok.1 (pow_chk (box_side hb (show k < b.length by omega)) (k := (tmT t k).toNat) (by omega) h2)
    rw [e] at h ⊢
    exact stimes_chk i.2.2 p.2.2 h
/-- All terms, the first n; the fault. -/
def sumN (f : List Tm) (b : List (Int × Int)) : Nat → Int × Int × Int
  | 0 => (0, 0, 0)
  | n + 1 => if (sumN f b n).2.2 = 0 then (if (prodN (tm f n) b b.length).2.2 = 0 then addR (sumN f b n).1 (sumN f b n).2.1 (prodN (tm f n) b b.length).1 (prodN (tm f n) b b.length).2.1 else (0, 0, 4)) else (0, 0, 4)
theorem sum_succ (f : List Tm) (b : List (Int × Int)) (n : Nat) : sumN f b (n + 1) = if (sumN f b n).2.2 = 0 then (if (prodN (tm f n) b b.length).2.2 = 0 then addR (sumN f b n).1 (sumN f b n).2.1 (prodN (tm f n) b b.length).1 (prodN (tm f n) b b.length).2.1 else (0, 0, 4)) else (0, 0, 4) := rfl
theorem sum_step {f : List Tm} {b : List (Int × Int)} {n : Nat} (h : (sumN f b (n + 1)).2.2 = 0) : (sumN f b n).2.2 = 0 ∧ (prodN (tm f n) b b.length).2.2 = 0 ∧
    sumN f b (n + 1) = addR (sumN f b n).1 (sumN f b n).2.1 (prodN (tm f n) b b.length).1 (prodN (tm f n) b b.length).2.1 := by
  rw [sum_succ] at h ⊢
  by_cases h1 : (sumN f b n).2.2 = 0
  · rw [if_pos h1] at h ⊢
    by_cases h2 : (prodN (tm f n) b b.length).2.2 = 0
    · rw [if_pos h2]; exact ⟨h1, h2, rfl⟩
    · rw [if_neg h2] at h; exact absurd h (by decide)
  · rw [if_neg h1] at h; exact absurd h (by decide)
theorem sum_fault (f : List Tm) (b : List (Int × Int)) (n : Nat) : (sumN f b n).2.2 = 0 ∨ sumN f b n = (0, 0, 4) := by
  cases n with
  | zero => exact .inl rfl
  | succ n =>
    rw [sum_succ]
    split
    · split
      · exact add_fault _ _ _ _
      · exact .inr rfl
    · exact .inr rfl
theorem sum_stay {f : List Tm} {b : List (Int × Int)} {n : Nat} (h : ¬ (sumN f b n).2.2 = 0) : ∀ j, sumN f b (n + j) = (0, 0, 4)
  | 0 => (sum_fault f b n).resolve_left h
  | j + 1 => by rw [show n + (j + 1) = n + j + 1 from rfl, sum_succ, sum_stay h j, if_neg (by decide)]
theorem sum_chk {f : List Tm} {b : List (Int × Int)} (hf : ∀ i, i < f.length → tmP (tm f i)) (hb : boxF b = 0) : ∀ {n : Nat}, n ≤ f.length → (sumN f b n).2.2 = 0 → chk (sumN f b n).1 (sumN f b n).2.1 = 0
  | 0, _, _ => by show chk 0 0 = 0; decide
  | n + 1, hn, h => by
    obtain ⟨h1, h2, e⟩ := sum_step h
    have i := chk_ok.1 (sum_chk hf hb (n := n) (by omega) h1)
    have p := chk_ok.1 (prod_chk (hf n (by omega)) hb (Nat.le_refl _) h2)
    rw [e] at h ⊢
    exact add_chk i.2.2 p.2.2 h
def frR (f : List Tm) (b : List (Int × Int)) : Int × Int × Int := sumN f b f.length
def frF (f : List Tm) (b : List (Int × Int)) : Int := if boxF b = 0 then formF f b.length else boxF b
def frAll (f : List Tm) (b : List (Int × Int)) : Int × Int × Int := if frF f b = 0 then frR f b else (0, 0, frF f b)
theorem fr_ok {f : List Tm} {b : List (Int × Int)} : frF f b = 0 ↔ boxF b = 0 ∧ formF f b.length = 0 := by
  unfold frF
  by_cases h : boxF b = 0
  · rw [if_pos h]; exact ⟨fun e => ⟨h, e⟩, fun e => e.2⟩
  · rw [if_neg h]; exact ⟨fun e => absurd e h, fun e => absurd e.1 h⟩
theorem fr_good {f : List Tm} {b : List (Int × Int)} (h : (frAll f b).2.2 = 0) : frF f b = 0 ∧ frAll f b = frR f b ∧ (frR f b).2.2 = 0 := by
  unfold frAll at h ⊢
  by_cases c : frF f b = 0
  · rw [if_pos c] at h ⊢; exact ⟨c, rfl, h⟩
  · rw [if_neg c] at h; exact absurd h c
theorem fr_terms {f : List Tm} {n : Int} (h : formF f n = 0) : ∀ i, i < f.length → tmP (tm f i) := fun i hi => (term_ok.1 ((form_ok.1 h).2.2 i hi)).1

/-! Over a box within. -/
theorem prod_in {t : Tm} {b c : List (Int × Int)} (ht : tmP t) (hc : boxF c = 0) (hl : c.length = b.length) (hw : withinP c b) : ∀ {k : Nat}, k ≤ c.length → (prodN t b k).2.2 = 0 →
    (prodN t c k).2.2 = 0 ∧ (prodN t b k).1 ≤ (prodN t c k).1 ∧ (prodN t c k).2.1 ≤ (prodN t b k).2.1
  | 0, _, _ => ⟨rfl, Int.le_refl _, Int.le_refl _⟩
  | k + 1, hk, h => by
    obtain ⟨h1, h2, e⟩ := prod_step h
    obtain ⟨i1, i2, i3⟩ := prod_in ht hc hl hw (k := k) (by omega) h1
    have w := hw k (by omega)
    have cc := box_side hc (show k < c.length by omega)
    have tt := tm_times ht k
    obtain ⟨p1, p2, p3⟩ := pow_in w.1 (chk_ok.1 cc).2.2 w.2 h2
    have o1 := (chk_ok.1 (prod_chk ht hc (show k ≤ c.length by omega) i1)).2.2
    have o2 := (chk_ok.1 (pow_chk cc (k := (tmT t k).toNat) (by omega) p1)).2.2
    rw [e] at h
    obtain ⟨s1, s2, s3⟩ := stimes_in i2 o1 i3 p2 o2 p3 h
    have e' : prodN t c (k + 1) = stimesR (prodN t c k).1 (prodN t c k).2.1 (powR (sd c k).1 (sd c k).2 (tmT t k).toNat).1 (powR (sd c k).1 (sd c k).2 (tmT t k).toNat).2.1 := by rw [prod_succ, if_pos i1, if_pos p1]
    rw [e, e']
    exact ⟨s1, s2, s3⟩
theorem sum_in {f : List Tm} {b c : List (Int × Int)} (hf : ∀ i, i < f.length → tmP (tm f i)) (hc : boxF c = 0) (hl : c.length = b.length) (hw : withinP c b) : ∀ {n : Nat}, n ≤ f.length → (sumN f b n).2.2 = 0 →
    (sumN f c n).2.2 = 0 ∧ (sumN f b n).1 ≤ (sumN f c n).1 ∧ (sumN f c n).2.1 ≤ (sumN f b n).2.1
  | 0, _, _ => ⟨rfl, Int.le_refl _, Int.le_refl _⟩
  | n + 1, hn, h => by
    obtain ⟨h1, h2, e⟩ := sum_step h
    obtain ⟨i1, i2, i3⟩ := sum_in hf hc hl hw (n := n) (by omega) h1
    have ht := hf n (by omega)
    obtain ⟨p1, p2, p3⟩ := prod_in ht hc hl hw (k := b.length) (by omega) h2
    rw [← hl] at p1
    rw [← hl] at h2
    have o1 := (chk_ok.1 (sum_chk hf hc (show n ≤ f.length by omega) i1)).2.2
    have o2 := (chk_ok.1 (prod_chk ht hc (Nat.le_refl _) p1)).2.2
    rw [hl] at p1 o2
    rw [e] at h
    obtain ⟨s1, s2, s3⟩ := add_in i2 o1 i3 p2 o2 p3 h
    have e' : sumN f c (n + 1) = addR (sumN f c n).1 (sumN f c n).2.1 (prodN (tm f n) c c.length).1 (prodN (tm f n) c c.length).2.1 := by rw [sum_succ, if_pos i1, hl, if_pos p1]
    rw [e, e', hl]
    exact ⟨s1, s2, s3⟩
/-- Over a smaller box the range is no wider. -/
theorem fr_in {f : List Tm} {b c : List (Int × Int)} (hbc : boxesF c b = 0) (hw : withinP c b) (h : (frAll f b).2.2 = 0) : (frAll f c).2.2 = 0 ∧ (frAll f b).1 ≤ (frAll f c).1 ∧ (frAll f c).2.1 ≤ (frAll f b).2.1 := by
  obtain ⟨hc, hb, hl⟩ := boxes_ok.1 hbc
  obtain ⟨h0, e, h1⟩ := fr_good h
  obtain ⟨_, hf⟩ := fr_ok.1 h0
  have h0' : frF f c = 0 := fr_ok.2 ⟨hc, by rw [hl]; exact hf⟩
  have e' : frAll f c = frR f c := by unfold frAll; rw [if_pos h0']
  rw [e, e']
  exact sum_in (fr_terms hf) hc hl hw (Nat.le_refl _) h1

/-! What it is at numbers. -/
/-- One term, the first k unknowns; how often they stand in it. -/
def exT (t : Tm) (x : List Int) : Nat → Int
  | 0 => t.1
  | k + 1 => exT t x k * nm x k ^ (tmT t k).toNat
def dgT (t : Tm) : Nat → Nat
  | 0 => 0
  | k + 1 => dgT t k + (tmT t k).toNat
theorem dg_le {t : Tm} (h : tmP t) {k : Nat} (hk : k ≤ 3) : dgT t k ≤ 3 := by
  obtain ⟨_, a, b, c, d⟩ := h
  have e : dgT t 3 = t.2.1.toNat + t.2.2.1.toNat + t.2.2.2.toNat := by simp [dgT, tmT]
  have m : ∀ j, dgT t j ≤ dgT t (j + 1) := fun j => Nat.le_add_right _ _
  have : dgT t 3 ≤ 3 := by omega
  rcases (by omega : k = 0 ∨ k = 1 ∨ k = 2 ∨ k = 3) with rfl | rfl | rfl | rfl
  · have := m 0; have := m 1; have := m 2; simp at *; omega
  · have := m 1; have := m 2; simp at *; omega
  · have := m 2; simp at *; omega
  · exact this
/-- All terms, the first n, by a million thousandths more. -/
def exS (f : List Tm) (x : List Int) : Nat → Int
  | 0 => 0
  | n + 1 => exS f x n + exT (tm f n) x x.length * 1000 ^ (3 - dgT (tm f n) x.length)
theorem prod_has {t : Tm} {b : List (Int × Int)} {x : List Int} (ht : tmP t) (hb : boxF b = 0) (hx : hasP b x) : ∀ {k : Nat}, k ≤ b.length → (prodN t b k).2.2 = 0 →
    (prodN t b k).1 * 1000 ^ dgT t k ≤ exT t x k ∧ exT t x k ≤ (prodN t b k).2.1 * 1000 ^ dgT t k
  | 0, _, _ => by show t.1 * 1000 ^ 0 ≤ t.1 ∧ t.1 ≤ t.1 * 1000 ^ 0; simp
  | k + 1, hk, h => by
    obtain ⟨h1, h2, e⟩ := prod_step h
    obtain ⟨i1, i2⟩ := prod_has ht hb hx (k := k) (by omega) h1
    have tt := tm_times ht k
    have n := hx k (by omega)
    obtain ⟨p1, p2⟩ := pow_has (box_side hb (show k < b.length by omega)) n.1 n.2 (k := (tmT t k).toNat) (by omega) h2
    have hD : (0 : Int) ≤ 1000 ^ dgT t k := Int.le_of_lt (Int.pow_pos (by decide))
    have hq : (0 : Int) ≤ 1000 ^ (tmT t k).toNat := Int.le_of_lt (Int.pow_pos (by decide))
    rw [e] at h
    have s := stimes_parts hD hq i1 i2 p1 p2 h
    rw [e]
    show _ * 1000 ^ (dgT t k + (tmT t k).toNat) ≤ exT t x k * nm x k ^ (tmT t k).toNat ∧ exT t x k * nm x k ^ (tmT t k).toNat ≤ _ * 1000 ^ (dgT t k + (tmT t k).toNat)
    rw [Int.pow_add]
    generalize stimesR (prodN t b k).1 (prodN t b k).2.1 (powR (sd b k).1 (sd b k).2 (tmT t k).toNat).1 (powR (sd b k).1 (sd b k).2 (tmT t k).toNat).2.1 = S at *
    generalize (1000 : Int) ^ dgT t k = D at *
    generalize (1000 : Int) ^ (tmT t k).toNat = q at *
    generalize nm x k ^ (tmT t k).toNat = N at *
    generalize exT t x k = V at *
    have e1 : ∀ z : Int, z * (1000 * q * D) = 1000 * (z * (D * q)) := fun z => by grind
    have e2 : V * (1000 * N) = 1000 * (V * N) := by grind
    rw [e1, e1, e2] at s
    omega
theorem sum_has {f : List Tm} {b : List (Int × Int)} {x : List Int} (hf : ∀ i, i < f.length → tmP (tm f i)) (hb : boxF b = 0) (hx : hasP b x) (hl : x.length = b.length) : ∀ {n : Nat}, n ≤ f.length → (sumN f b n).2.2 = 0 →
    (sumN f b n).1 * 1000000000 ≤ exS f x n ∧ exS f x n ≤ (sumN f b n).2.1 * 1000000000
  | 0, _, _ => by show (0 : Int) * 1000000000 ≤ 0 ∧ (0 : Int) ≤ 0 * 1000000000; decide
  | n + 1, hn, h => by
    obtain ⟨h1, h2, e⟩ := sum_step h
    obtain ⟨i1, i2⟩ := sum_has hf hb hx hl (n := n) (by omega) h1
    have ht := hf n (by omega)
    obtain ⟨p1, p2⟩ := prod_has ht hb hx (Nat.le_refl _) h2
    have dl := dg_le ht (box_len hb).2
    have P : (0 : Int) ≤ 1000 ^ (3 - dgT (tm f n) b.length) := Int.le_of_lt (Int.pow_pos (by decide))
    have u1 := Int.mul_le_mul_of_nonneg_right p1 P
    have u2 := Int.mul_le_mul_of_nonneg_right p2 P
    have ee : ∀ z : Int, z * 1000 ^ dgT (tm f n) b.length * 1000 ^ (3 - dgT (tm f n) b.length) = z * 1000000000 := fun z => by
      rw [Int.mul_assoc, ← Int.pow_add, show dgT (tm f n) b.length + (3 - dgT (tm f n) b.length) = 3 by omega]; rfl
    rw [ee] at u1 u2
    rw [e] at h
    obtain ⟨a, _, _⟩ := add_is h
    rw [e, a]
    show (_ + _) * 1000000000 ≤ exS f x n + exT (tm f n) x x.length * 1000 ^ (3 - dgT (tm f n) x.length) ∧ exS f x n + exT (tm f n) x x.length * 1000 ^ (3 - dgT (tm f n) x.length) ≤ (_ + _) * 1000000000
    rw [hl, Int.add_mul, Int.add_mul]
    omega
/-- What it is is in its range. -/
theorem fr_has {f : List Tm} {b : List (Int × Int)} {x : List Int} (hl : x.length = b.length) (hx : hasP b x) (h : (frAll f b).2.2 = 0) :
    (frAll f b).1 ≤ fl (exS f x f.length) 1000000000 ∧ fl (exS f x f.length) 1000000000 ≤ (frAll f b).2.1 := by
  obtain ⟨h0, e, h1⟩ := fr_good h
  obtain ⟨hb, hf⟩ := fr_ok.1 h0
  rw [e]
  obtain ⟨a, c⟩ := sum_has (fr_terms hf) hb hx hl (Nat.le_refl _) h1
  have s := fl_spec_pos (n := exS f x f.length) (d := 1000000000) (by decide)
  unfold frR
  omega
end Um
namespace Um
set_option linter.unusedSimpArgs false

def nx (s : List (List Tm)) (i : Nat) : List Tm := s[i]?.getD []
theorem nx_mem {s : List (List Tm)} {i : Nat} (h : i < s.length) : nx s i ∈ s := by unfold nx; rw [List.getElem?_eq_getElem h]; exact List.getElem_mem h
def formsF (n : Int) : List (List Tm) → Int
  | [] => 0
  | f :: l => if formF f n = 0 then formsF n l else formF f n
theorem forms_ok {n : Int} : ∀ {s : List (List Tm)}, formsF n s = 0 ↔ ∀ f ∈ s, formF f n = 0
  | [] => by simp [formsF]
  | f :: l => by
    unfold formsF
    by_cases h : formF f n = 0
    · rw [if_pos h, forms_ok]; simp [h]
    · rw [if_neg h]
      exact ⟨fun e => absurd e h, fun e => absurd (e f (by simp)) h⟩
theorem forms_first {n : Int} : ∀ {s : List (List Tm)} {k : Nat}, k < s.length → (∀ j, j < k → formF (nx s j) n = 0) → ¬ formF (nx s k) n = 0 → formsF n s = formF (nx s k) n
  | [], _, h, _, _ => absurd h (Nat.not_lt_zero _)
  | f :: l, 0, _, _, h => by
    have h' : ¬ formF f n = 0 := h
    unfold formsF; rw [if_neg h']; rfl
  | f :: l, k + 1, hk, hj, h => by
    have h0 : formF f n = 0 := hj 0 (by omega)
    unfold formsF
    rw [if_pos h0]
    exact forms_first (s := l) (k := k) (by simpa using hk) (fun j hj' => hj (j + 1) (by omega)) h
/-- What is wrong with a system. -/
def sysF (s : List (List Tm)) (p : List (Int × Int)) : Int :=
  if s = [] then 5 else if 3 < s.length then 4 else if p.length = s.length then (if formsF s.length s = 0 then sidesF p else formsF s.length s) else 3
theorem sys_ok {s : List (List Tm)} {p : List (Int × Int)} : sysF s p = 0 ↔ s ≠ [] ∧ s.length ≤ 3 ∧ p.length = s.length ∧ (∀ f ∈ s, formF f s.length = 0) ∧ ∀ q ∈ p, chk q.1 q.2 = 0 := by
  unfold sysF
  by_cases h : s = []
  · rw [if_pos h]; exact ⟨fun e => absurd e (by decide), fun e => absurd h e.1⟩
  · rw [if_neg h]
    by_cases h2 : 3 < s.length
    · rw [if_pos h2]; exact ⟨fun e => absurd e (by decide), fun e => by omega⟩
    · rw [if_neg h2]
      by_cases h3 : p.length = s.length
      · rw [if_pos h3]
        by_cases h4 : formsF s.length s = 0
        · rw [if_pos h4, sides_ok]
          exact ⟨fun e => ⟨h, by omega, h3, forms_ok.1 h4, e⟩, fun e => e.2.2.2.2⟩
        · rw [if_neg h4]
          exact ⟨fun e => absurd e h4, fun e => absurd (forms_ok.2 e.2.2.2.1) h4⟩
      · rw [if_neg h3]; exact ⟨fun e => absurd e (by decide), fun e => absurd e.2.2.1 h3⟩
/-- With a box. -/
def readyF (s : List (List Tm)) (p b : List (Int × Int)) : Int := if sysF s p = 0 then (if boxF b = 0 then (if b.length = s.length then 0 else 3) else boxF b) else sysF s p
theorem ready_ok {s : List (List Tm)} {p b : List (Int × Int)} : readyF s p b = 0 ↔ sysF s p = 0 ∧ boxF b = 0 ∧ b.length = s.length := by
  unfold readyF
  by_cases h : sysF s p = 0
  · rw [if_pos h]
    by_cases h2 : boxF b = 0
    · rw [if_pos h2]
      by_cases h3 : b.length = s.length
      · rw [if_pos h3]; exact ⟨fun _ => ⟨h, h2, h3⟩, fun _ => rfl⟩
      · rw [if_neg h3]; exact ⟨fun e => absurd e (by decide), fun e => absurd e.2.2 h3⟩
    · rw [if_neg h2]; exact ⟨fun e => absurd e h2, fun e => absurd e.2.1 h2⟩
  · rw [if_neg h]; exact ⟨fun e => absurd e h, fun e => absurd e.1 h⟩
theorem sys_terms {s : List (List Tm)} {p : List (Int × Int)} (h : sysF s p = 0) {i : Nat} (hi : i < s.length) : ∀ k, k < (nx s i).length → tmP (tm (nx s i) k) := fr_terms ((sys_ok.1 h).2.2.2.1 _ (nx_mem hi))
theorem sys_push {s : List (List Tm)} {p : List (Int × Int)} (h : sysF s p = 0) {i : Nat} (hi : i < s.length) : chk (sd p i).1 (sd p i).2 = 0 := (sys_ok.1 h).2.2.2.2 _ (sd_mem (by have := (sys_ok.1 h).2.2.1; omega))

/-- A side of what may be next; the fault. -/
def sideR (s : List (List Tm)) (p b : List (Int × Int)) (i : Nat) : Int × Int × Int := if (frR (nx s i) b).2.2 = 0 then addR (frR (nx s i) b).1 (frR (nx s i) b).2.1 (sd p i).1 (sd p i).2 else (0, 0, 4)
theorem side_ok {s : List (List Tm)} {p b : List (Int × Int)} {i : Nat} (h : (sideR s p b i).2.2 = 0) : (frR (nx s i) b).2.2 = 0 ∧ sideR s p b i = addR (frR (nx s i) b).1 (frR (nx s i) b).2.1 (sd p i).1 (sd p i).2 := by
  unfold sideR at h ⊢
  by_cases c : (frR (nx s i) b).2.2 = 0
  · rw [if_pos c]; exact ⟨c, rfl⟩
  · rw [if_neg c] at h; exact absurd h (by decide)
theorem side_fault (s : List (List Tm)) (p b : List (Int × Int)) (i : Nat) : (sideR s p b i).2.2 = 0 ∨ sideR s p b i = (0, 0, 4) := by
  unfold sideR
  split
  · exact add_fault _ _ _ _
  · exact .inr rfl
theorem side_chk {s : List (List Tm)} {p b : List (Int × Int)} (hr : readyF s p b = 0) {i : Nat} (hi : i < s.length) (h : (sideR s p b i).2.2 = 0) : chk (sideR s p b i).1 (sideR s p b i).2.1 = 0 := by
  obtain ⟨hs, hb, hl⟩ := ready_ok.1 hr
  obtain ⟨c, e⟩ := side_ok h
  have o1 := (chk_ok.1 (sum_chk (sys_terms hs hi) hb (Nat.le_refl _) c)).2.2
  have o2 := (chk_ok.1 (sys_push hs hi)).2.2
  rw [e] at h ⊢
  exact add_chk o1 o2 h
/-- What may be next, the first k sides; the fault. -/
def nextN (s : List (List Tm)) (p b : List (Int × Int)) : Nat → List (Int × Int) × Int
  | 0 => ([], 0)
  | k + 1 => if (nextN s p b k).2 = 0 then (if (sideR s p b k).2.2 = 0 then ((nextN s p b k).1 ++ [((sideR s p b k).1, (sideR s p b k).2.1)], 0) else ([], 4)) else ([], 4)
theorem nextN_succ (s : List (List Tm)) (p b : List (Int × Int)) (k : Nat) : nextN s p b (k + 1) = if (nextN s p b k).2 = 0 then (if (sideR s p b k).2.2 = 0 then ((nextN s p b k).1 ++ [((sideR s p b k).1, (sideR s p b k).2.1)], 0) else ([], 4)) else ([], 4) := rfl
def behR (s : List (List Tm)) (p b : List (Int × Int)) : List (Int × Int) × Int := nextN s p b s.length
theorem nextN_fault (s : List (List Tm)) (p b : List (Int × Int)) (k : Nat) : (nextN s p b k).2 = 0 ∨ nextN s p b k = ([], 4) := by
  cases k with
  | zero => exact .inl rfl
  | succ k =>
    rw [nextN_succ]
    split
    · split
      · exact .inl rfl
      · exact .inr rfl
    · exact .inr rfl
theorem nextN_stay {s : List (List Tm)} {p b : List (Int × Int)} {k : Nat} (h : ¬ (nextN s p b k).2 = 0) : ∀ j, nextN s p b (k + j) = ([], 4)
  | 0 => (nextN_fault s p b k).resolve_left h
  | j + 1 => by rw [show k + (j + 1) = k + j + 1 from rfl, nextN_succ, nextN_stay h j, if_neg (by decide)]
theorem nextN_bad {s : List (List Tm)} {p b : List (Int × Int)} {k n : Nat} (hk : k < n) (h : ¬ (sideR s p b k).2.2 = 0) : nextN s p b n = ([], 4) := by
  have e : nextN s p b (k + 1) = ([], 4) := by
    rw [nextN_succ]
    split
    · rfl
    · rfl
  have := nextN_stay (s := s) (p := p) (b := b) (k := k + 1) (by rw [e]; decide) (n - (k + 1))
  rwa [show k + 1 + (n - (k + 1)) = n by omega] at this
theorem nextN_of {s : List (List Tm)} {p b : List (Int × Int)} : ∀ {k : Nat}, (∀ i, i < k → (sideR s p b i).2.2 = 0) → (nextN s p b k).2 = 0
  | 0, _ => rfl
  | k + 1, h => by rw [nextN_succ, if_pos (nextN_of fun i hi => h i (by omega)), if_pos (h k (by omega))]
theorem nextN_ok {s : List (List Tm)} {p b : List (Int × Int)} : ∀ {k : Nat}, (nextN s p b k).2 = 0 → (nextN s p b k).1.length = k ∧ ∀ i, i < k → (sideR s p b i).2.2 = 0 ∧ sd (nextN s p b k).1 i = ((sideR s p b i).1, (sideR s p b i).2.1)
  | 0, _ => ⟨rfl, fun i h => absurd h (Nat.not_lt_zero _)⟩
  | k + 1, h => by
    have h1 : (nextN s p b k).2 = 0 := by
      rcases (nextN_fault s p b k) with e | e
      · exact e
      · rw [nextN_succ, e, if_neg (by decide)] at h; exact absurd h (by decide)
    have h2 : (sideR s p b k).2.2 = 0 := by
      rcases Classical.em ((sideR s p b k).2.2 = 0) with e | e
      · exact e
      · rw [nextN_succ, if_pos h1, if_neg e] at h; exact absurd h (by decide)
    obtain ⟨hl, hi⟩ := nextN_ok (k := k) h1
    rw [nextN_succ, if_pos h1, if_pos h2]
    refine ⟨by show ((nextN s p b k).1 ++ [_]).length = k + 1; rw [List.length_append, hl]; rfl, fun i hk => ?_⟩
    rcases (by omega : i < k ∨ i = k) with q | rfl
    · obtain ⟨u, v⟩ := hi i q
      refine ⟨u, ?_⟩
      unfold sd at v ⊢
      show ((nextN s p b k).1 ++ [_])[i]?.getD (0, 0) = _
      rw [List.getElem?_append_left (by omega)]
      exact v
    · refine ⟨h2, ?_⟩
      show ((nextN s p b i).1 ++ [_])[i]?.getD (0, 0) = _
      rw [List.getElem?_append_right (by omega), hl]
      simp
theorem next_box {s : List (List Tm)} {p b : List (Int × Int)} (hr : readyF s p b = 0) (h : (behR s p b).2 = 0) : boxF (behR s p b).1 = 0 ∧ (behR s p b).1.length = s.length := by
  obtain ⟨hs, hb, hl⟩ := ready_ok.1 hr
  obtain ⟨l, g⟩ := nextN_ok h
  have l' : (behR s p b).1.length = s.length := l
  have s0 := (sys_ok.1 hs)
  refine ⟨box_of (by rw [l']; exact List.length_pos_iff.2 s0.1) (by rw [l']; exact s0.2.1) (fun i hi => ?_), l'⟩
  rw [l'] at hi
  obtain ⟨u, v⟩ := g i hi
  have v' : sd (behR s p b).1 i = ((sideR s p b i).1, (sideR s p b i).2.1) := v
  rw [v']
  exact side_chk hr hi u
theorem next_ready {s : List (List Tm)} {p b : List (Int × Int)} (hr : readyF s p b = 0) (h : (behR s p b).2 = 0) : readyF s p (behR s p b).1 = 0 :=
  ready_ok.2 ⟨(ready_ok.1 hr).1, (next_box hr h).1, (next_box hr h).2⟩
/-- Behind a box within it is within. -/
theorem next_in {s : List (List Tm)} {p b c : List (Int × Int)} (hb : readyF s p b = 0) (hc : readyF s p c = 0) (hw : withinP c b) (h : (behR s p b).2 = 0) : (behR s p c).2 = 0 ∧ withinP (behR s p c).1 (behR s p b).1 := by
  obtain ⟨hs, bb, bl⟩ := ready_ok.1 hb
  obtain ⟨_, cb, cl⟩ := ready_ok.1 hc
  obtain ⟨l, g⟩ := nextN_ok h
  have key : ∀ i, i < s.length → (sideR s p c i).2.2 = 0 ∧ (sideR s p b i).1 ≤ (sideR s p c i).1 ∧ (sideR s p c i).2.1 ≤ (sideR s p b i).2.1 := by
    intro i hi
    obtain ⟨u, _⟩ := g i hi
    obtain ⟨f, e⟩ := side_ok u
    obtain ⟨a1, a2, a3⟩ := sum_in (sys_terms hs hi) cb (by omega) hw (Nat.le_refl _) f
    have a1' : (frR (nx s i) c).2.2 = 0 := a1
    have o1 := (chk_ok.1 (sum_chk (sys_terms hs hi) cb (Nat.le_refl _) a1)).2.2
    have o2 := (chk_ok.1 (sys_push hs hi)).2.2
    rw [e] at u
    obtain ⟨d1, d2, d3⟩ := add_in a2 o1 a3 (Int.le_refl _) o2 (Int.le_refl _) u
    have e' : sideR s p c i = addR (frR (nx s i) c).1 (frR (nx s i) c).2.1 (sd p i).1 (sd p i).2 := by unfold sideR; rw [if_pos a1']
    rw [e, e']
    exact ⟨d1, d2, d3⟩
  have h2 : (behR s p c).2 = 0 := nextN_of fun i hi => (key i hi).1
  obtain ⟨l2, g2⟩ := nextN_ok h2
  refine ⟨h2, fun i hi => ?_⟩
  have hi' : i < s.length := by
    have e : (behR s p c).1.length = s.length := l2
    omega
  have v : sd (behR s p b).1 i = ((sideR s p b i).1, (sideR s p b i).2.1) := (g i hi').2
  have v2 : sd (behR s p c).1 i = ((sideR s p c i).1, (sideR s p c i).2.1) := (g2 i hi').2
  rw [v, v2]
  exact ⟨(key i hi').2.1, (key i hi').2.2⟩
/-- No point falls out: each number, and a push of its span, is in its side. -/
theorem next_has {s : List (List Tm)} {p b : List (Int × Int)} {x q : List Int} (hb : readyF s p b = 0) (hx : hasP b x) (hxl : x.length = b.length) (h : (behR s p b).2 = 0)
    (hq : ∀ i, i < s.length → ∃ d, (sd p i).1 ≤ d ∧ d ≤ (sd p i).2 ∧ nm q i = fl (exS (nx s i) x (nx s i).length) 1000000000 + d) : hasP (behR s p b).1 q := by
  obtain ⟨hs, bb, bl⟩ := ready_ok.1 hb
  obtain ⟨l, g⟩ := nextN_ok h
  intro i hi
  have hi' : i < s.length := by
    have e : (behR s p b).1.length = s.length := l
    omega
  have v : sd (behR s p b).1 i = ((sideR s p b i).1, (sideR s p b i).2.1) := (g i hi').2
  obtain ⟨f, e⟩ := side_ok (g i hi').1
  obtain ⟨a, c⟩ := sum_has (sys_terms hs hi') bb hx hxl (Nat.le_refl _) f
  have k := fl_spec_pos (n := exS (nx s i) x (nx s i).length) (d := 1000000000) (by decide)
  obtain ⟨d, d1, d2, d3⟩ := hq i hi'
  have u := (g i hi').1
  rw [e] at u
  obtain ⟨w, _, _⟩ := add_is u
  rw [v, e, w, d3]
  show (frR (nx s i) b).1 + (sd p i).1 ≤ _ ∧ _ ≤ (frR (nx s i) b).2.1 + (sd p i).2
  unfold frR
  omega

/-! Step by step. -/
/-- The box behind k steps; the fault. -/
def tubeN (s : List (List Tm)) (p b : List (Int × Int)) : Nat → List (Int × Int) × Int
  | 0 => (b, 0)
  | k + 1 => if (tubeN s p b k).2 = 0 then behR s p (tubeN s p b k).1 else ([], 4)
theorem tube_succ (s : List (List Tm)) (p b : List (Int × Int)) (k : Nat) : tubeN s p b (k + 1) = if (tubeN s p b k).2 = 0 then behR s p (tubeN s p b k).1 else ([], 4) := rfl
theorem tube_ready {s : List (List Tm)} {p b : List (Int × Int)} (hb : readyF s p b = 0) : ∀ {k : Nat}, (tubeN s p b k).2 = 0 → readyF s p (tubeN s p b k).1 = 0
  | 0, _ => hb
  | k + 1, h => by
    rw [tube_succ] at h ⊢
    by_cases c : (tubeN s p b k).2 = 0
    · rw [if_pos c] at h ⊢
      exact next_ready (tube_ready hb c) h
    · rw [if_neg c] at h; exact absurd h (by decide)
theorem tube_step {s : List (List Tm)} {p b : List (Int × Int)} {k : Nat} (h : (tubeN s p b (k + 1)).2 = 0) : (tubeN s p b k).2 = 0 ∧ tubeN s p b (k + 1) = behR s p (tubeN s p b k).1 := by
  rw [tube_succ] at h ⊢
  by_cases c : (tubeN s p b k).2 = 0
  · rw [if_pos c]; exact ⟨c, rfl⟩
  · rw [if_neg c] at h; exact absurd h (by decide)
/-- Of a box that is never left each is within the one ahead. -/
theorem tube_holds {s : List (List Tm)} {p b : List (Int × Int)} (hb : readyF s p b = 0) (h : (behR s p b).2 = 0) (hw : withinP (behR s p b).1 b) : ∀ k, (tubeN s p b (k + 1)).2 = 0 ∧ withinP (tubeN s p b (k + 1)).1 (tubeN s p b k).1
  | 0 => by
    rw [tube_succ, if_pos (show (tubeN s p b 0).2 = 0 from rfl)]
    exact ⟨h, hw⟩
  | k + 1 => by
    obtain ⟨i1, i2⟩ := tube_holds hb h hw k
    obtain ⟨j1, j2⟩ := tube_step i1
    rw [tube_succ, if_pos i1]
    have r1 := tube_ready hb j1
    have r2 := tube_ready hb i1
    rw [j2] at i1
    have n := next_in r1 r2 i2 i1
    rw [← j2] at n
    exact n
end Um
namespace Um
set_option linter.unusedSimpArgs false

theorem within_refl (b : List (Int × Int)) : withinP b b := fun _ _ => ⟨Int.le_refl _, Int.le_refl _⟩
theorem within_trans {a b c : List (Int × Int)} (hl : a.length = b.length) (h1 : withinP a b) (h2 : withinP b c) : withinP a c := fun i hi => by
  have := h1 i hi
  have := h2 i (by omega)
  omega
theorem within_has {a b : List (Int × Int)} {x : List Int} (hl : a.length = b.length) (h : withinP a b) (hx : hasP a x) : hasP b x := fun i hi => by
  have := h i (by omega)
  have := hx i (by omega)
  omega
theorem half_within {b : List (Int × Int)} (h : boxF b = 0) : withinP (halfA b) b ∧ withinP (halfB b) b := by
  have hm := mid_in h
  refine ⟨fun i hi => ?_, fun i hi => ?_⟩
  · rw [halfA_len] at hi
    unfold halfA
    rw [sd_set hi]
    by_cases e : i = wide b
    · subst e; rw [if_pos rfl]; exact ⟨Int.le_refl _, hm.2⟩
    · rw [if_neg e]; exact ⟨Int.le_refl _, Int.le_refl _⟩
  · rw [halfB_len] at hi
    unfold halfB
    rw [sd_set hi]
    by_cases e : i = wide b
    · subst e; rw [if_pos rfl]; exact ⟨hm.1, Int.le_refl _⟩
    · rw [if_neg e]; exact ⟨Int.le_refl _, Int.le_refl _⟩
/-- So often all are halved, the first half ahead of the second. -/
def piecesN (b : List (Int × Int)) : Nat → List (List (Int × Int))
  | 0 => [b]
  | k + 1 => (piecesN b k).flatMap fun c => [halfA c, halfB c]
theorem pieces_succ (b : List (Int × Int)) (k : Nat) : piecesN b (k + 1) = (piecesN b k).flatMap fun c => [halfA c, halfB c] := rfl
theorem pieces_len (b : List (Int × Int)) : ∀ k, (piecesN b k).length = 2 ^ k
  | 0 => rfl
  | k + 1 => by
    rw [pieces_succ, List.length_flatMap]
    have : ((piecesN b k).map fun c => ([halfA c, halfB c] : List (List (Int × Int))).length) = List.replicate (piecesN b k).length 2 := by
      apply List.ext_getElem
      · simp
      · intro i h1 h2; simp
    rw [this, List.sum_replicate_nat, pieces_len b k, Nat.pow_succ]
theorem pieces_in {b : List (Int × Int)} (h : boxF b = 0) : ∀ k, ∀ c ∈ piecesN b k, boxF c = 0 ∧ c.length = b.length ∧ withinP c b
  | 0, c, hc => by
    obtain rfl := List.mem_singleton.1 hc
    exact ⟨h, rfl, within_refl _⟩
  | k + 1, c, hc => by
    rw [pieces_succ] at hc
    obtain ⟨d, hd, hc⟩ := List.mem_flatMap.1 hc
    obtain ⟨i1, i2, i3⟩ := pieces_in h k d hd
    have hb := half_box i1
    have hw := half_within i1
    rcases List.mem_cons.1 hc with rfl | hc
    · exact ⟨hb.1, by rw [halfA_len]; exact i2, within_trans (halfA_len d) hw.1 i3⟩
    · obtain rfl := List.mem_singleton.1 hc
      exact ⟨hb.2, by rw [halfB_len]; exact i2, within_trans (halfB_len d) hw.2 i3⟩
theorem pieces_has {b : List (Int × Int)} {x : List Int} (h : boxF b = 0) (hx : hasP b x) : ∀ k, ∃ c ∈ piecesN b k, hasP c x
  | 0 => ⟨b, by simp [piecesN], hx⟩
  | k + 1 => by
    obtain ⟨c, hc, cx⟩ := pieces_has h hx k
    rcases (half_has (pieces_in h k c hc).1).1 cx with g | g
    · exact ⟨_, List.mem_flatMap.2 ⟨c, hc, by simp⟩, g⟩
    · exact ⟨_, List.mem_flatMap.2 ⟨c, hc, by simp⟩, g⟩
def pc (l : List (List (Int × Int))) (i : Nat) : List (Int × Int) := l[i]?.getD []
theorem pc_mem {l : List (List (Int × Int))} {i : Nat} (h : i < l.length) : pc l i ∈ l := by unfold pc; rw [List.getElem?_eq_getElem h]; exact List.getElem_mem h
/-- The hull of what may be behind the first n; the fault. -/
def covN (s : List (List Tm)) (p : List (Int × Int)) (l : List (List (Int × Int))) : Nat → List (Int × Int) × Int
  | 0 => ([], 0)
  | i + 1 => if (covN s p l i).2 = 0 then (if (behR s p (pc l i)).2 = 0 then ((if i = 0 then (behR s p (pc l i)).1 else hullN (covN s p l i).1 (behR s p (pc l i)).1 (covN s p l i).1.length), 0) else ([], 4)) else ([], 4)
theorem cov_succ (s : List (List Tm)) (p : List (Int × Int)) (l : List (List (Int × Int))) (i : Nat) : covN s p l (i + 1) = if (covN s p l i).2 = 0 then (if (behR s p (pc l i)).2 = 0 then ((if i = 0 then (behR s p (pc l i)).1 else hullN (covN s p l i).1 (behR s p (pc l i)).1 (covN s p l i).1.length), 0) else ([], 4)) else ([], 4) := rfl
theorem cov_fault (s : List (List Tm)) (p : List (Int × Int)) (l : List (List (Int × Int))) (i : Nat) : (covN s p l i).2 = 0 ∨ covN s p l i = ([], 4) := by
  cases i with
  | zero => exact .inl rfl
  | succ i =>
    rw [cov_succ]
    split
    · split
      · exact .inl rfl
      · exact .inr rfl
    · exact .inr rfl
theorem cov_stay {s : List (List Tm)} {p : List (Int × Int)} {l : List (List (Int × Int))} {k : Nat} (h : ¬ (covN s p l k).2 = 0) : ∀ j, covN s p l (k + j) = ([], 4)
  | 0 => (cov_fault s p l k).resolve_left h
  | j + 1 => by rw [show k + (j + 1) = k + j + 1 from rfl, cov_succ, cov_stay h j, if_neg (by decide)]
/-- A step of all is within a step of the whole, and has a step of each. -/
theorem cov_ok {s : List (List Tm)} {p b : List (Int × Int)} {l : List (List (Int × Int))} (hr : readyF s p b = 0) (h : (behR s p b).2 = 0) (hl : ∀ c ∈ l, boxF c = 0 ∧ c.length = b.length ∧ withinP c b) :
    ∀ n, n < l.length → (covN s p l (n + 1)).2 = 0 ∧ boxF (covN s p l (n + 1)).1 = 0 ∧ (covN s p l (n + 1)).1.length = s.length ∧ withinP (covN s p l (n + 1)).1 (behR s p b).1 ∧ ∀ i, i ≤ n → (behR s p (pc l i)).2 = 0 ∧ withinP (behR s p (pc l i)).1 (covN s p l (n + 1)).1 := by
  have rb := ready_ok.1 hr
  have each : ∀ i, i < l.length → readyF s p (pc l i) = 0 ∧ (behR s p (pc l i)).2 = 0 ∧ withinP (behR s p (pc l i)).1 (behR s p b).1 := fun i hi => by
    obtain ⟨a1, a2, a3⟩ := hl _ (pc_mem hi)
    have r : readyF s p (pc l i) = 0 := ready_ok.2 ⟨rb.1, a1, by omega⟩
    obtain ⟨u, v⟩ := next_in hr r a3 h
    exact ⟨r, u, v⟩
  intro n
  induction n with
  | zero =>
    intro hn
    obtain ⟨r, u, v⟩ := each 0 hn
    have nb := next_box r u
    rw [cov_succ, if_pos (show (covN s p l 0).2 = 0 from rfl), if_pos u, if_pos rfl]
    refine ⟨rfl, nb.1, nb.2, v, fun i hi => ?_⟩
    obtain rfl : i = 0 := by omega
    exact ⟨u, within_refl _⟩
  | succ n ih =>
    intro hn
    obtain ⟨r, u, v⟩ := each (n + 1) hn
    have nb := next_box r u
    obtain ⟨i1, i2, i3, i4, i5⟩ := ih (by omega)
    rw [cov_succ, if_pos i1, if_pos u, if_neg (by omega)]
    have hb : boxesF (covN s p l (n + 1)).1 (behR s p (pc l (n + 1))).1 = 0 := boxes_ok.2 ⟨i2, nb.1, by rw [i3, nb.2]⟩
    obtain ⟨g1, g2, g3⟩ := hull_box hb
    refine ⟨rfl, g1, by show (hullN _ _ _).length = _; rw [hull_length]; exact i3, fun i hi => ?_, fun i hi => ?_⟩
    · have hi' : i < (covN s p l (n + 1)).1.length := by
        have : i < (hullN (covN s p l (n + 1)).1 (behR s p (pc l (n + 1))).1 (covN s p l (n + 1)).1.length).length := hi
        rwa [hull_length] at this
      have a := i4 i hi'
      have c := v i (by rw [nb.2]; omega)
      show (sd (behR s p b).1 i).1 ≤ (sd (hullN _ _ _) i).1 ∧ (sd (hullN _ _ _) i).2 ≤ (sd (behR s p b).1 i).2
      rw [hull_side _ _ hi']
      show _ ≤ min _ _ ∧ max _ _ ≤ _
      omega
    · rcases (by omega : i ≤ n ∨ i = n + 1) with q | rfl
      · obtain ⟨a, c⟩ := i5 i q
        obtain ⟨r', _, _⟩ := each i (by omega)
        exact ⟨a, within_trans (by rw [(next_box r' a).2, i3]) c g2⟩
      · exact ⟨u, g3⟩
def covR (s : List (List Tm)) (p b : List (Int × Int)) (depth : Nat) : List (Int × Int) × Int := covN s p (piecesN b depth) (2 ^ depth)
theorem cover_within {s : List (List Tm)} {p b : List (Int × Int)} (hr : readyF s p b = 0) (h : (behR s p b).2 = 0) (d : Nat) : (covR s p b d).2 = 0 ∧ boxF (covR s p b d).1 = 0 ∧ (covR s p b d).1.length = s.length ∧ withinP (covR s p b d).1 (behR s p b).1 := by
  have e : 2 ^ d - 1 + 1 = 2 ^ d := Nat.sub_add_cancel Nat.one_le_two_pow
  obtain ⟨a, b', c, f, _⟩ := cov_ok hr h (pieces_in (ready_ok.1 hr).2.1 d) (2 ^ d - 1) (by rw [pieces_len]; omega)
  rw [e] at a b' c f
  exact ⟨a, b', c, f⟩
/-- Each point of the box is there. -/
theorem cover_has {s : List (List Tm)} {p b : List (Int × Int)} {x q : List Int} (hr : readyF s p b = 0) (h : (behR s p b).2 = 0) (d : Nat) (hx : hasP b x) (hxl : x.length = b.length)
    (hq : ∀ i, i < s.length → ∃ d, (sd p i).1 ≤ d ∧ d ≤ (sd p i).2 ∧ nm q i = fl (exS (nx s i) x (nx s i).length) 1000000000 + d) : hasP (covR s p b d).1 q := by
  have e : 2 ^ d - 1 + 1 = 2 ^ d := Nat.sub_add_cancel Nat.one_le_two_pow
  have rb := ready_ok.1 hr
  obtain ⟨c, hc, cx⟩ := pieces_has rb.2.1 hx d
  obtain ⟨i, hi, rfl⟩ := List.getElem_of_mem hc
  have pe : pc (piecesN b d) i = (piecesN b d)[i] := by unfold pc; rw [List.getElem?_eq_getElem hi]; rfl
  obtain ⟨k1, k2, k3⟩ := pieces_in rb.2.1 d _ hc
  obtain ⟨_, _, l3, _, f⟩ := cov_ok hr h (pieces_in rb.2.1 d) (2 ^ d - 1) (by rw [pieces_len]; omega)
  rw [e] at l3 f
  rw [pieces_len] at hi
  obtain ⟨u, w⟩ := f i (by omega)
  rw [pe] at u w
  have r : readyF s p (piecesN b d)[i] = 0 := ready_ok.2 ⟨rb.1, k1, by omega⟩
  have g := next_has r cx (by omega) u hq
  exact within_has (by rw [(next_box r u).2]; exact l3.symm) w g

/-! Never left. -/
/-- Each side wider by so much. -/
def widerL (b : List (Int × Int)) (by' : Int) : List (Int × Int) := b.map fun s => (s.1 - by', s.2 + by')
theorem wider_len (b : List (Int × Int)) (y : Int) : (widerL b y).length = b.length := by unfold widerL; rw [List.length_map]
theorem wider_side {b : List (Int × Int)} {y : Int} {i : Nat} (h : i < b.length) : sd (widerL b y) i = ((sd b i).1 - y, (sd b i).2 + y) := by
  unfold widerL sd
  rw [List.getElem?_map, List.getElem?_eq_getElem h]; rfl
theorem wider_has {b : List (Int × Int)} {y : Int} (hy : 0 ≤ y) : withinP b (widerL b y) := fun i hi => by
  rw [wider_side hi]; show _ - y ≤ _ ∧ _ ≤ _ + y; omega
end Um
namespace Um
set_option linter.unusedSimpArgs false

theorem meet_keeps {al ah bl bh n : Int} (h1 : al ≤ n) (h2 : n ≤ ah) (h3 : bl ≤ n) (h4 : n ≤ bh) : (meetR al ah bl bh).2.2 = 0 ∧ (meetR al ah bl bh).1 ≤ n ∧ n ≤ (meetR al ah bl bh).2.1 := by
  rw [meet_yes (by omega)]
  exact ⟨rfl, by show max _ _ ≤ n; omega, by show n ≤ min _ _; omega⟩
theorem meet_left {al ah bl bh : Int} (h : (meetR al ah bl bh).2.2 = 0) : al ≤ (meetR al ah bl bh).1 ∧ (meetR al ah bl bh).2.1 ≤ ah ∧ (meetR al ah bl bh).1 ≤ (meetR al ah bl bh).2.1 := by
  obtain ⟨_, b, _, d, e⟩ := meet_in h
  exact ⟨d, e, b⟩
theorem add_keeps {al ah bl bh x y : Int} (h1 : al ≤ x) (h2 : x ≤ ah) (h3 : bl ≤ y) (h4 : y ≤ bh) (h : (addR al ah bl bh).2.2 = 0) : (addR al ah bl bh).1 ≤ x + y ∧ x + y ≤ (addR al ah bl bh).2.1 := by
  rw [(add_is h).1]
  exact ⟨by show al + bl ≤ _; omega, by show _ ≤ ah + bh; omega⟩
theorem less_keeps {al ah bl bh x y : Int} (h1 : al ≤ x) (h2 : x ≤ ah) (h3 : bl ≤ y) (h4 : y ≤ bh) (h : (lessR al ah bl bh).2.2 = 0) : (lessR al ah bl bh).1 ≤ x - y ∧ x - y ≤ (lessR al ah bl bh).2.1 := by
  rw [(less_is h).1]
  exact ⟨by show al - bh ≤ _; omega, by show _ ≤ ah - bl; omega⟩
/-- A product that is whole is in the product of spans. -/
theorem times_keeps {al ah bl bh x y c : Int} (h1 : al ≤ x) (h2 : x ≤ ah) (h3 : bl ≤ y) (h4 : y ≤ bh) (hc : x * y = 1000 * c) (h : (stimesR al ah bl bh).2.2 = 0) : (stimesR al ah bl bh).1 ≤ c ∧ c ≤ (stimesR al ah bl bh).2.1 := by
  obtain ⟨_, _, a, b⟩ := stimes_has h1 h2 h3 h4 h
  rw [hc] at a b
  omega
/-- What times y is a whole product is in that by y. -/
theorem by_keeps {al ah bl bh c x y : Int} (h1 : al ≤ c) (h2 : c ≤ ah) (h3 : bl ≤ y) (h4 : y ≤ bh) (hc : x * y = 1000 * c) (h : (sbyR al ah bl bh).2.2 = 0) : (sbyR al ah bl bh).1 ≤ x ∧ x ≤ (sbyR al ah bl bh).2.1 := by
  obtain ⟨_, _, k⟩ := sby_has h1 h2 h3 h4 h
  rw [← hc] at k
  rcases k with ⟨hy, a, b⟩ | ⟨hy, a, b⟩
  · exact ⟨le_of_mul hy a, le_of_mul hy b⟩
  · have hy' : 0 < -y := by omega
    refine ⟨le_of_mul hy' ?_, le_of_mul hy' ?_⟩
    · rw [Int.mul_neg, Int.mul_neg]; omega
    · rw [Int.mul_neg, Int.mul_neg]; omega
/-- Three spans, and the fault. -/
abbrev Three := (Int × Int) × (Int × Int) × (Int × Int) × Int
def no3 (k : Int) : Three := ((0, 0), (0, 0), (0, 0), k)
/-- As a sum: the three steps, each of what is there. -/
def nsumR (xl xh yl yh zl zh : Int) : Three :=
  if (addR xl xh yl yh).2.2 = 0 then
    (let C := meetR zl zh (addR xl xh yl yh).1 (addR xl xh yl yh).2.1
     if C.2.2 = 0 then
      (let U := lessR C.1 C.2.1 yl yh
       if U.2.2 = 0 then
        (let A := meetR xl xh U.1 U.2.1
         if A.2.2 = 0 then
          (let V := lessR C.1 C.2.1 A.1 A.2.1
           if V.2.2 = 0 then
            (let B := meetR yl yh V.1 V.2.1
             if B.2.2 = 0 then ((A.1, A.2.1), (B.1, B.2.1), (C.1, C.2.1), 0) else no3 B.2.2)
           else no3 V.2.2)
         else no3 A.2.2)
       else no3 U.2.2)
     else no3 C.2.2)
  else no3 (addR xl xh yl yh).2.2
theorem nsum_is {xl xh yl yh zl zh : Int} {T C U A V B : Int × Int × Int} (eT : addR xl xh yl yh = T) (eC : meetR zl zh T.1 T.2.1 = C) (eU : lessR C.1 C.2.1 yl yh = U) (eA : meetR xl xh U.1 U.2.1 = A) (eV : lessR C.1 C.2.1 A.1 A.2.1 = V) (eB : meetR yl yh V.1 V.2.1 = B) :
    nsumR xl xh yl yh zl zh = if T.2.2 = 0 then (if C.2.2 = 0 then (if U.2.2 = 0 then (if A.2.2 = 0 then (if V.2.2 = 0 then (if B.2.2 = 0 then ((A.1, A.2.1), (B.1, B.2.1), (C.1, C.2.1), 0) else no3 B.2.2) else no3 V.2.2) else no3 A.2.2) else no3 U.2.2) else no3 C.2.2) else no3 T.2.2 := by
  subst eT; subst eC; subst eU; subst eA; subst eV; subst eB; rfl
/-- What goes together, added up, stays; and something does. -/
theorem nsum_keeps {xl xh yl yh zl zh a b : Int} (h1 : xl ≤ a) (h2 : a ≤ xh) (h3 : yl ≤ b) (h4 : b ≤ yh) (h5 : zl ≤ a + b) (h6 : a + b ≤ zh) :
    (nsumR xl xh yl yh zl zh).2.2.2 ≠ 5 ∧ ((nsumR xl xh yl yh zl zh).2.2.2 = 0 → ((nsumR xl xh yl yh zl zh).1.1 ≤ a ∧ a ≤ (nsumR xl xh yl yh zl zh).1.2) ∧ ((nsumR xl xh yl yh zl zh).2.1.1 ≤ b ∧ b ≤ (nsumR xl xh yl yh zl zh).2.1.2) ∧ ((nsumR xl xh yl yh zl zh).2.2.1.1 ≤ a + b ∧ a + b ≤ (nsumR xl xh yl yh zl zh).2.2.1.2)) := by
  obtain ⟨T, eT⟩ : ∃ T, addR xl xh yl yh = T := ⟨_, rfl⟩
  obtain ⟨C, eC⟩ : ∃ C, meetR zl zh T.1 T.2.1 = C := ⟨_, rfl⟩
  obtain ⟨U, eU⟩ : ∃ U, lessR C.1 C.2.1 yl yh = U := ⟨_, rfl⟩
  obtain ⟨A, eA⟩ : ∃ A, meetR xl xh U.1 U.2.1 = A := ⟨_, rfl⟩
  obtain ⟨V, eV⟩ : ∃ V, lessR C.1 C.2.1 A.1 A.2.1 = V := ⟨_, rfl⟩
  obtain ⟨B, eB⟩ : ∃ B, meetR yl yh V.1 V.2.1 = B := ⟨_, rfl⟩
  rw [nsum_is eT eC eU eA eV eB]
  have out : ∀ k : Int, k = 4 → (no3 k).2.2.2 ≠ 5 ∧ ((no3 k).2.2.2 = 0 → ((no3 k).1.1 ≤ a ∧ a ≤ (no3 k).1.2) ∧ ((no3 k).2.1.1 ≤ b ∧ b ≤ (no3 k).2.1.2) ∧ ((no3 k).2.2.1.1 ≤ a + b ∧ a + b ≤ (no3 k).2.2.1.2)) := fun k e => by
    subst e
    exact ⟨by show (4 : Int) ≠ 5; decide, fun h => absurd h (by show ¬ (4 : Int) = 0; decide)⟩
  by_cases t : T.2.2 = 0
  · rw [if_pos t]
    have kt := add_keeps h1 h2 h3 h4 (by rw [eT]; exact t)
    rw [eT] at kt
    have kc := meet_keeps h5 h6 kt.1 kt.2
    rw [eC] at kc
    rw [if_pos kc.1]
    by_cases u : U.2.2 = 0
    · rw [if_pos u]
      have ku := less_keeps kc.2.1 kc.2.2 h3 h4 (by rw [eU]; exact u)
      rw [eU] at ku
      have ka := meet_keeps h1 h2 (show U.1 ≤ a by omega) (show a ≤ U.2.1 by omega)
      rw [eA] at ka
      rw [if_pos ka.1]
      by_cases v : V.2.2 = 0
      · rw [if_pos v]
        have kv := less_keeps kc.2.1 kc.2.2 ka.2.1 ka.2.2 (by rw [eV]; exact v)
        rw [eV] at kv
        have kb := meet_keeps h3 h4 (show V.1 ≤ b by omega) (show b ≤ V.2.1 by omega)
        rw [eB] at kb
        rw [if_pos kb.1]
        exact ⟨by show (0 : Int) ≠ 5; decide, fun _ => ⟨ka.2, kb.2, kc.2⟩⟩
      · rw [if_neg v]
        have f := (less_fault C.1 C.2.1 A.1 A.2.1)
        rw [eV] at f
        exact out _ (by rw [f.resolve_left v])
    · rw [if_neg u]
      have f := (less_fault C.1 C.2.1 yl yh)
      rw [eU] at f
      exact out _ (by rw [f.resolve_left u])
  · rw [if_neg t]
    have f := (add_fault xl xh yl yh)
    rw [eT] at f
    exact out _ (by rw [f.resolve_left t])
theorem nsum_in {xl xh yl yh zl zh : Int} (h : (nsumR xl xh yl yh zl zh).2.2.2 = 0) : (xl ≤ (nsumR xl xh yl yh zl zh).1.1 ∧ (nsumR xl xh yl yh zl zh).1.2 ≤ xh) ∧ (yl ≤ (nsumR xl xh yl yh zl zh).2.1.1 ∧ (nsumR xl xh yl yh zl zh).2.1.2 ≤ yh) ∧ (zl ≤ (nsumR xl xh yl yh zl zh).2.2.1.1 ∧ (nsumR xl xh yl yh zl zh).2.2.1.2 ≤ zh) := by
  obtain ⟨T, eT⟩ : ∃ T, addR xl xh yl yh = T := ⟨_, rfl⟩
  obtain ⟨C, eC⟩ : ∃ C, meetR zl zh T.1 T.2.1 = C := ⟨_, rfl⟩
  obtain ⟨U, eU⟩ : ∃ U, lessR C.1 C.2.1 yl yh = U := ⟨_, rfl⟩
  obtain ⟨A, eA⟩ : ∃ A, meetR xl xh U.1 U.2.1 = A := ⟨_, rfl⟩
  obtain ⟨V, eV⟩ : ∃ V, lessR C.1 C.2.1 A.1 A.2.1 = V := ⟨_, rfl⟩
  obtain ⟨B, eB⟩ : ∃ B, meetR yl yh V.1 V.2.1 = B := ⟨_, rfl⟩
  rw [nsum_is eT eC eU eA eV eB] at h ⊢
  by_cases t : T.2.2 = 0
  · rw [if_pos t] at h ⊢
    by_cases c : C.2.2 = 0
    · rw [if_pos c] at h ⊢
      by_cases u : U.2.2 = 0
      · rw [if_pos u] at h ⊢
        by_cases a : A.2.2 = 0
        · rw [if_pos a] at h ⊢
          by_cases v : V.2.2 = 0
          · rw [if_pos v] at h ⊢
            by_cases b : B.2.2 = 0
            · rw [if_pos b]
              have ma := meet_left (by rw [eA]; exact a : (meetR xl xh U.1 U.2.1).2.2 = 0)
              have mb := meet_left (by rw [eB]; exact b : (meetR yl yh V.1 V.2.1).2.2 = 0)
              have mc := meet_left (by rw [eC]; exact c : (meetR zl zh T.1 T.2.1).2.2 = 0)
              rw [eA] at ma
              rw [eB] at mb
              rw [eC] at mc
              exact ⟨⟨ma.1, ma.2.1⟩, ⟨mb.1, mb.2.1⟩, ⟨mc.1, mc.2.1⟩⟩
            · rw [if_neg b] at h; exact absurd h b
          · rw [if_neg v] at h; exact absurd h v
        · rw [if_neg a] at h; exact absurd h a
      · rw [if_neg u] at h; exact absurd h u
    · rw [if_neg c] at h; exact absurd h c
  · rw [if_neg t] at h; exact absurd h t
/-- As a product: of one of two, what goes with the third one by the other one, if 0 is not in that. -/
def backR (xl xh cl ch yl yh : Int) : Int × Int × Int :=
  if yl ≤ 0 ∧ 0 ≤ yh then (xl, xh, 0) else (if (sbyR cl ch yl yh).2.2 = 0 then meetR xl xh (sbyR cl ch yl yh).1 (sbyR cl ch yl yh).2.1 else (0, 0, (sbyR cl ch yl yh).2.2))
theorem back_keeps {xl xh cl ch yl yh x y c : Int} (h1 : xl ≤ x) (h2 : x ≤ xh) (h3 : cl ≤ c) (h4 : c ≤ ch) (h5 : yl ≤ y) (h6 : y ≤ yh) (hc : x * y = 1000 * c) :
    (backR xl xh cl ch yl yh).2.2 ≠ 5 ∧ ((backR xl xh cl ch yl yh).2.2 = 0 → (backR xl xh cl ch yl yh).1 ≤ x ∧ x ≤ (backR xl xh cl ch yl yh).2.1) := by
  unfold backR
  by_cases z : yl ≤ 0 ∧ 0 ≤ yh
  · rw [if_pos z]; exact ⟨by show (0 : Int) ≠ 5; decide, fun _ => ⟨h1, h2⟩⟩
  · rw [if_neg z]
    by_cases u : (sbyR cl ch yl yh).2.2 = 0
    · rw [if_pos u]
      have k := by_keeps h3 h4 h5 h6 hc u
      have m := meet_keeps h1 h2 k.1 k.2
      exact ⟨by rw [m.1]; decide, fun _ => m.2⟩
    · rw [if_neg u]
      refine ⟨?_, fun h => absurd h u⟩
      rcases sby_fault cl ch yl yh with e | e | e
      · exact absurd e u
      · rw [e]; decide
      · rw [e]; decide
theorem back_in {xl xh cl ch yl yh : Int} (h : (backR xl xh cl ch yl yh).2.2 = 0) : xl ≤ (backR xl xh cl ch yl yh).1 ∧ (backR xl xh cl ch yl yh).2.1 ≤ xh := by
  unfold backR at h ⊢
  by_cases z : yl ≤ 0 ∧ 0 ≤ yh
  · rw [if_pos z]; exact ⟨Int.le_refl _, Int.le_refl _⟩
  · rw [if_neg z] at h ⊢
    by_cases u : (sbyR cl ch yl yh).2.2 = 0
    · rw [if_pos u] at h ⊢
      have m := meet_left h
      exact ⟨m.1, m.2.1⟩
    · rw [if_neg u] at h; exact absurd h u
def ntimesR (xl xh yl yh zl zh : Int) : Three :=
  if (stimesR xl xh yl yh).2.2 = 0 then
    (let C := meetR zl zh (stimesR xl xh yl yh).1 (stimesR xl xh yl yh).2.1
     if C.2.2 = 0 then
      (let A := backR xl xh C.1 C.2.1 yl yh
       if A.2.2 = 0 then
        (let B := backR yl yh C.1 C.2.1 A.1 A.2.1
         if B.2.2 = 0 then ((A.1, A.2.1), (B.1, B.2.1), (C.1, C.2.1), 0) else no3 B.2.2)
       else no3 A.2.2)
     else no3 C.2.2)
  else no3 (stimesR xl xh yl yh).2.2
theorem ntimes_is {xl xh yl yh zl zh : Int} {T C A B : Int × Int × Int} (eT : stimesR xl xh yl yh = T) (eC : meetR zl zh T.1 T.2.1 = C) (eA : backR xl xh C.1 C.2.1 yl yh = A) (eB : backR yl yh C.1 C.2.1 A.1 A.2.1 = B) :
    ntimesR xl xh yl yh zl zh = if T.2.2 = 0 then (if C.2.2 = 0 then (if A.2.2 = 0 then (if B.2.2 = 0 then ((A.1, A.2.1), (B.1, B.2.1), (C.1, C.2.1), 0) else no3 B.2.2) else no3 A.2.2) else no3 C.2.2) else no3 T.2.2 := by
  subst eT; subst eC; subst eA; subst eB; rfl
/-- What goes together, times each other, stays; and something does. -/
theorem ntimes_keeps {xl xh yl yh zl zh a b c : Int} (h1 : xl ≤ a) (h2 : a ≤ xh) (h3 : yl ≤ b) (h4 : b ≤ yh) (h5 : zl ≤ c) (h6 : c ≤ zh) (hc : a * b = 1000 * c) :
    (ntimesR xl xh yl yh zl zh).2.2.2 ≠ 5 ∧ ((ntimesR xl xh yl yh zl zh).2.2.2 = 0 → ((ntimesR xl xh yl yh zl zh).1.1 ≤ a ∧ a ≤ (ntimesR xl xh yl yh zl zh).1.2) ∧ ((ntimesR xl xh yl yh zl zh).2.1.1 ≤ b ∧ b ≤ (ntimesR xl xh yl yh zl zh).2.1.2) ∧ ((ntimesR xl xh yl yh zl zh).2.2.1.1 ≤ c ∧ c ≤ (ntimesR xl xh yl yh zl zh).2.2.1.2)) := by
  obtain ⟨T, eT⟩ : ∃ T, stimesR xl xh yl yh = T := ⟨_, rfl⟩
  obtain ⟨C, eC⟩ : ∃ C, meetR zl zh T.1 T.2.1 = C := ⟨_, rfl⟩
  obtain ⟨A, eA⟩ : ∃ A, backR xl xh C.1 C.2.1 yl yh = A := ⟨_, rfl⟩
  obtain ⟨B, eB⟩ : ∃ B, backR yl yh C.1 C.2.1 A.1 A.2.1 = B := ⟨_, rfl⟩
  rw [ntimes_is eT eC eA eB]
  by_cases t : T.2.2 = 0
  · rw [if_pos t]
    have kt := times_keeps h1 h2 h3 h4 hc (by rw [eT]; exact t)
    rw [eT] at kt
    have kc := meet_keeps h5 h6 kt.1 kt.2
    rw [eC] at kc
    rw [if_pos kc.1]
    have ka := back_keeps h1 h2 kc.2.1 kc.2.2 h3 h4 hc
    rw [eA] at ka
    by_cases a0 : A.2.2 = 0
    · rw [if_pos a0]
      have k2 := ka.2 a0
      have kb := back_keeps h3 h4 kc.2.1 kc.2.2 k2.1 k2.2 (by rw [Int.mul_comm]; exact hc)
      rw [eB] at kb
      by_cases b0 : B.2.2 = 0
      · rw [if_pos b0]
        exact ⟨by show (0 : Int) ≠ 5; decide, fun _ => ⟨k2, kb.2 b0, kc.2⟩⟩
      · rw [if_neg b0]; exact ⟨kb.1, fun h => absurd h b0⟩
    · rw [if_neg a0]; exact ⟨ka.1, fun h => absurd h a0⟩
  · rw [if_neg t]
    have f := stimes_fault xl xh yl yh
    rw [eT] at f
    refine ⟨?_, fun h => absurd h t⟩
    show T.2.2 ≠ 5
    rw [f.resolve_left t]; decide
theorem ntimes_in {xl xh yl yh zl zh : Int} (h : (ntimesR xl xh yl yh zl zh).2.2.2 = 0) : (xl ≤ (ntimesR xl xh yl yh zl zh).1.1 ∧ (ntimesR xl xh yl yh zl zh).1.2 ≤ xh) ∧ (yl ≤ (ntimesR xl xh yl yh zl zh).2.1.1 ∧ (ntimesR xl xh yl yh zl zh).2.1.2 ≤ yh) ∧ (zl ≤ (ntimesR xl xh yl yh zl zh).2.2.1.1 ∧ (ntimesR xl xh yl yh zl zh).2.2.1.2 ≤ zh) := by
  obtain ⟨T, eT⟩ : ∃ T, stimesR xl xh yl yh = T := ⟨_, rfl⟩
  obtain ⟨C, eC⟩ : ∃ C, meetR zl zh T.1 T.2.1 = C := ⟨_, rfl⟩
  obtain ⟨A, eA⟩ : ∃ A, backR xl xh C.1 C.2.1 yl yh = A := ⟨_, rfl⟩
  obtain ⟨B, eB⟩ : ∃ B, backR yl yh C.1 C.2.1 A.1 A.2.1 = B := ⟨_, rfl⟩
  rw [ntimes_is eT eC eA eB] at h ⊢
  by_cases t : T.2.2 = 0
  · rw [if_pos t] at h ⊢
    by_cases c : C.2.2 = 0
    · rw [if_pos c] at h ⊢
      by_cases a : A.2.2 = 0
      · rw [if_pos a] at h ⊢
        by_cases b : B.2.2 = 0
        · rw [if_pos b]
          have ma := back_in (by rw [eA]; exact a : (backR xl xh C.1 C.2.1 yl yh).2.2 = 0)
          have mb := back_in (by rw [eB]; exact b : (backR yl yh C.1 C.2.1 A.1 A.2.1).2.2 = 0)
          have mc := meet_left (by rw [eC]; exact c : (meetR zl zh T.1 T.2.1).2.2 = 0)
          rw [eA] at ma
          rw [eB] at mb
          rw [eC] at mc
          exact ⟨ma, mb, ⟨mc.1, mc.2.1⟩⟩
        · rw [if_neg b] at h; exact absurd h b
      · rw [if_neg a] at h; exact absurd h a
    · rw [if_neg c] at h; exact absurd h c
  · rw [if_neg t] at h; exact absurd h t
end Um
namespace Um
set_option linter.unusedSimpArgs false

/-! At numbers by q parts. -/
/-- A number by q of a span, so many times with itself, is in the power of the span. -/
theorem pow_q {lo hi N q : Int} (hc : chk lo hi = 0) (hq : 0 ≤ q) (h1 : lo * q ≤ N) (h2 : N ≤ hi * q) {k : Nat} (hk : k ≤ 3) (h : (powR lo hi k).2.2 = 0) :
    (powR lo hi k).1 * (1000 * q) ^ k ≤ 1000 * N ^ k ∧ 1000 * N ^ k ≤ (powR lo hi k).2.1 * (1000 * q) ^ k := by
  obtain ⟨m1, m2, m3⟩ := chk_ok.1 hc
  have b1 := (may_iff lo).1 m1
  have b2 := (may_iff hi).1 m2
  rcases (by omega : k = 0 ∨ k = 1 ∨ k = 2 ∨ k = 3) with rfl | rfl | rfl | rfl
  · rw [pow_zero]; simp
  · rw [pow_once m1 m2]
    simp only [Int.pow_succ, Int.pow_zero, Int.one_mul]
    have e1 : lo * (1000 * q) = 1000 * (lo * q) := by rw [← Int.mul_assoc, Int.mul_comm lo 1000, Int.mul_assoc]
    have e2 : hi * (1000 * q) = 1000 * (hi * q) := by rw [← Int.mul_assoc, Int.mul_comm hi 1000, Int.mul_assoc]
    rw [e1, e2]
    omega
  · have hf := far_right m3
    have hm := far_may m1 m2
    have fq : (farR lo hi).1 * q ≤ ab N ∧ ab N ≤ (farR lo hi).2 * q := by
      have k1 : (farR (lo * q) (hi * q)).1 ≤ ab N ∧ ab N ≤ (farR (lo * q) (hi * q)).2 := far_has h1 h2
      have k2 : (farR lo hi).1 * q ≤ (farR (lo * q) (hi * q)).1 ∧ (farR (lo * q) (hi * q)).2 ≤ (farR lo hi).2 * q := by
        have s1 : ∀ z : Int, 0 ≤ z → 0 ≤ z * q := fun z hz => Int.mul_nonneg hz hq
        have a1 : ab (lo * q) = ab lo * q := by
          unfold ab
          by_cases c : lo < 0
          · rw [if_pos c]
            have := s1 (-lo) (by omega)
            rw [Int.neg_mul] at this ⊢
            split <;> omega
          · rw [if_neg c]
            have := s1 lo (by omega)
            rw [if_neg (by omega)]
        have a2 : ab (hi * q) = ab hi * q := by
          unfold ab
          by_cases c : hi < 0
          · rw [if_pos c]
            have := s1 (-hi) (by omega)
            rw [Int.neg_mul] at this ⊢
            split <;> omega
          · rw [if_neg c]
            have := s1 hi (by omega)
            rw [if_neg (by omega)]
        have mx : max (ab lo * q) (ab hi * q) = max (ab lo) (ab hi) * q := by
          rcases Int.le_total (ab lo) (ab hi) with c | c
          · have := Int.mul_le_mul_of_nonneg_right c hq
            rw [show max (ab lo) (ab hi) = ab hi by omega]; omega
          · have := Int.mul_le_mul_of_nonneg_right c hq
            rw [show max (ab lo) (ab hi) = ab lo by omega]; omega
        have mi : min (ab lo * q) (ab hi * q) = min (ab lo) (ab hi) * q := by
          rcases Int.le_total (ab lo) (ab hi) with c | c
          · have := Int.mul_le_mul_of_nonneg_right c hq
            rw [show min (ab lo) (ab hi) = ab lo by omega]; omega
          · have := Int.mul_le_mul_of_nonneg_right c hq
            rw [show min (ab lo) (ab hi) = ab hi by omega]; omega
        unfold farR
        simp only [a1, a2, mx, mi]
        refine ⟨?_, Int.le_refl _⟩
        by_cases c : lo ≤ 0 ∧ 0 ≤ hi
        · rw [if_pos c, Int.zero_mul]
          split
          · exact Int.le_refl _
          · have := s1 (min (ab lo) (ab hi)) (by have := ab_nonneg lo; have := ab_nonneg hi; omega)
            exact this
        · rw [if_neg c]
          by_cases c2 : lo * q ≤ 0 ∧ 0 ≤ hi * q
          · rw [if_pos c2]
            have z : q = 0 := by
              rcases (by omega : 0 < lo ∨ hi < 0) with p | p
              · rcases Int.lt_or_eq_of_le hq with g | g
                · have := Int.mul_pos p g; omega
                · exact g.symm
              · rcases Int.lt_or_eq_of_le hq with g | g
                · have := Int.mul_pos (show 0 < -hi by omega) g
                  rw [Int.neg_mul] at this
                  omega
                · exact g.symm
            rw [z, Int.mul_zero]; exact Int.le_refl _
          · rw [if_neg c2]; exact Int.le_refl _
      omega
    have hP : powR lo hi 2 = both (agR (farR lo hi).1 2) (agR (farR lo hi).2 2) := by unfold powR; rw [if_pos (by decide)]
    rw [hP] at h ⊢
    obtain ⟨k1, k2, e⟩ := both_ok h
    rw [e]
    generalize (farR lo hi).1 = u at *
    generalize (farR lo hi).2 = v at *
    have a1 := (ag_two hf.1 (by omega) k1).1
    have a2 := (ag_two (n := v) (by omega) hm k2).2
    have g1 := sq_mono (Int.mul_nonneg hf.1 hq) fq.1
    have g2 := sq_mono (ab_nonneg N) fq.2
    rw [ab_sq] at g1 g2
    have qq : 0 ≤ q * q := Int.mul_nonneg hq hq
    have c1 := Int.mul_le_mul_of_nonneg_right a1 qq
    have c2 := Int.mul_le_mul_of_nonneg_right a2 qq
    show (agR u 2).1 * (1000 * q) ^ 2 ≤ 1000 * N ^ 2 ∧ 1000 * N ^ 2 ≤ (agR v 2).2.1 * (1000 * q) ^ 2
    simp only [Int.pow_succ, Int.pow_zero, Int.one_mul]
    have e1 : (agR u 2).1 * (1000 * q * (1000 * q)) = 1000 * ((agR u 2).1 * 1000 * (q * q)) := by grind
    have e2 : (agR v 2).2.1 * (1000 * q * (1000 * q)) = 1000 * ((agR v 2).2.1 * 1000 * (q * q)) := by grind
    have e3 : u * q * (u * q) = u * u * (q * q) := by grind
    have e4 : v * q * (v * q) = v * v * (q * q) := by grind
    rw [e1, e2]
    rw [e3] at g1
    rw [e4] at g2
    omega
  · have hP : powR lo hi 3 = both (endR lo 3) (endR hi 3) := by unfold powR; rw [if_neg (by decide)]
    rw [hP] at h ⊢
    obtain ⟨k1, k2, e⟩ := both_ok h
    rw [e]
    have t1 := (end_three m1 k1).2.2.2.1
    have t2 := (end_three m2 k2).2.2.2.2
    have c1 := cube_mono h1
    have c2 := cube_mono h2
    have q3 : 0 ≤ q * q * q := Int.mul_nonneg (Int.mul_nonneg hq hq) hq
    have d1 := Int.mul_le_mul_of_nonneg_right t1 q3
    have d2 := Int.mul_le_mul_of_nonneg_right t2 q3
    show (endR lo 3).1 * (1000 * q) ^ 3 ≤ 1000 * N ^ 3 ∧ 1000 * N ^ 3 ≤ (endR hi 3).2.1 * (1000 * q) ^ 3
    simp only [Int.pow_succ, Int.pow_zero, Int.one_mul]
    generalize (endR lo 3).1 = s at *
    generalize (endR hi 3).2.1 = r at *
    have e1 : s * (1000 * q * (1000 * q) * (1000 * q)) = 1000 * (s * 1000000 * (q * q * q)) := by grind
    have e2 : r * (1000 * q * (1000 * q) * (1000 * q)) = 1000 * (r * 1000000 * (q * q * q)) := by grind
    have e3 : lo * q * (lo * q) * (lo * q) = lo * lo * lo * (q * q * q) := by grind
    have e4 : hi * q * (hi * q) * (hi * q) = hi * hi * hi * (q * q * q) := by grind
    rw [e1, e2]
    rw [e3] at c1
    rw [e4] at c2
    omega
/-- In a box, by q parts. -/
def hasQ (q : Int) (b : List (Int × Int)) (x : List Int) : Prop := ∀ i, i < b.length → (sd b i).1 * q ≤ nm x i ∧ nm x i ≤ (sd b i).2 * q
theorem prod_q {q : Int} (hq : 0 < q) {t : Tm} {b : List (Int × Int)} {x : List Int} (ht : tmP t) (hb : boxF b = 0) (hx : hasQ q b x) : ∀ {k : Nat}, k ≤ b.length → (prodN t b k).2.2 = 0 →
    (prodN t b k).1 * (1000 * q) ^ dgT t k ≤ exT t x k ∧ exT t x k ≤ (prodN t b k).2.1 * (1000 * q) ^ dgT t k
  | 0, _, _ => by show t.1 * (1000 * q) ^ 0 ≤ t.1 ∧ t.1 ≤ t.1 * (1000 * q) ^ 0; simp
  | k + 1, hk, h => by
    obtain ⟨h1, h2, e⟩ := prod_step h
    obtain ⟨i1, i2⟩ := prod_q hq ht hb hx (k := k) (by omega) h1
    have tt := tm_times ht k
    have n := hx k (by omega)
    obtain ⟨p1, p2⟩ := pow_q (box_side hb (show k < b.length by omega)) (Int.le_of_lt hq) n.1 n.2 (k := (tmT t k).toNat) (by omega) h2
    have hB : (0 : Int) < 1000 * q := by omega
    have hD : (0 : Int) ≤ (1000 * q) ^ dgT t k := Int.le_of_lt (Int.pow_pos hB)
    have hQ : (0 : Int) ≤ (1000 * q) ^ (tmT t k).toNat := Int.le_of_lt (Int.pow_pos hB)
    rw [e] at h
    have s := stimes_parts hD hQ i1 i2 p1 p2 h
    rw [e]
    show _ * (1000 * q) ^ (dgT t k + (tmT t k).toNat) ≤ exT t x k * nm x k ^ (tmT t k).toNat ∧ exT t x k * nm x k ^ (tmT t k).toNat ≤ _ * (1000 * q) ^ (dgT t k + (tmT t k).toNat)
    rw [Int.pow_add]
    generalize stimesR (prodN t b k).1 (prodN t b k).2.1 (powR (sd b k).1 (sd b k).2 (tmT t k).toNat).1 (powR (sd b k).1 (sd b k).2 (tmT t k).toNat).2.1 = S at *
    generalize (1000 * q) ^ dgT t k = D at *
    generalize (1000 * q) ^ (tmT t k).toNat = Q at *
    generalize nm x k ^ (tmT t k).toNat = N at *
    generalize exT t x k = V at *
    have e1 : ∀ z : Int, z * (1000 * Q * D) = 1000 * (z * (D * Q)) := fun z => by grind
    have e2 : V * (1000 * N) = 1000 * (V * N) := by grind
    rw [e1, e1, e2] at s
    omega
/-- All terms at numbers by q parts. -/
def exQ (q : Int) (m : Nat) (f : List Tm) (x : List Int) : Nat → Int
  | 0 => 0
  | n + 1 => exQ q m f x n + exT (tm f n) x m * (1000 * q) ^ (3 - dgT (tm f n) m)
theorem sum_q {q : Int} (hq : 0 < q) {f : List Tm} {b : List (Int × Int)} {x : List Int} (hf : ∀ i, i < f.length → tmP (tm f i)) (hb : boxF b = 0) (hx : hasQ q b x) : ∀ {n : Nat}, n ≤ f.length → (sumN f b n).2.2 = 0 →
    (sumN f b n).1 * (1000 * q) ^ 3 ≤ exQ q b.length f x n ∧ exQ q b.length f x n ≤ (sumN f b n).2.1 * (1000 * q) ^ 3
  | 0, _, _ => by show (0 : Int) * (1000 * q) ^ 3 ≤ 0 ∧ (0 : Int) ≤ 0 * (1000 * q) ^ 3; simp
  | n + 1, hn, h => by
    obtain ⟨h1, h2, e⟩ := sum_step h
    obtain ⟨i1, i2⟩ := sum_q hq hf hb hx (n := n) (by omega) h1
    have ht := hf n (by omega)
    obtain ⟨p1, p2⟩ := prod_q hq ht hb hx (Nat.le_refl _) h2
    have dl := dg_le ht (box_len hb).2
    have hB : (0 : Int) < 1000 * q := by omega
    have P : (0 : Int) ≤ (1000 * q) ^ (3 - dgT (tm f n) b.length) := Int.le_of_lt (Int.pow_pos hB)
    have u1 := Int.mul_le_mul_of_nonneg_right p1 P
    have u2 := Int.mul_le_mul_of_nonneg_right p2 P
    have ee : ∀ z : Int, z * (1000 * q) ^ dgT (tm f n) b.length * (1000 * q) ^ (3 - dgT (tm f n) b.length) = z * (1000 * q) ^ 3 := fun z => by
      rw [Int.mul_assoc, ← Int.pow_add, show dgT (tm f n) b.length + (3 - dgT (tm f n) b.length) = 3 by omega]
    rw [ee] at u1 u2
    rw [e] at h
    obtain ⟨a, _, _⟩ := add_is h
    rw [e, a]
    show (_ + _) * (1000 * q) ^ 3 ≤ exQ q b.length f x n + exT (tm f n) x b.length * (1000 * q) ^ (3 - dgT (tm f n) b.length) ∧ exQ q b.length f x n + exT (tm f n) x b.length * (1000 * q) ^ (3 - dgT (tm f n) b.length) ≤ (_ + _) * (1000 * q) ^ 3
    rw [Int.add_mul, Int.add_mul]
    omega
end Um
namespace Um
set_option linter.unusedSimpArgs false

/-- How a term changes by an unknown. -/
def stT (t : Tm) (k : Nat) : Tm := if k = 0 then (t.1 * t.2.1, t.2.1 - 1, t.2.2.1, t.2.2.2) else if k = 1 then (t.1 * t.2.2.1, t.2.1, t.2.2.1 - 1, t.2.2.2) else (t.1 * t.2.2.2, t.2.1, t.2.2.1, t.2.2.2 - 1)
def p3 (t : Tm) (a b c : Int) : Int := t.1 * a ^ t.2.1.toNat * b ^ t.2.2.1.toNat * c ^ t.2.2.2.toNat
def d3 (t : Tm) : Nat := t.2.1.toNat + t.2.2.1.toNat + t.2.2.2.toNat
/-- What stands beyond the sides stands in it no times. -/
theorem ex_three {t : Tm} {x : List Int} {n : Nat} (ht : tmP t) (ho : ¬ tmO t n) (h1 : 1 ≤ n) (h3 : n ≤ 3) : exT t x n = p3 t (nm x 0) (nm x 1) (nm x 2) ∧ dgT t n = d3 t := by
  obtain ⟨_, ⟨a1, a2⟩, ⟨b1, b2⟩, ⟨c1, c2⟩, _⟩ := ht
  have o : ¬ (((n : Int) ≤ 1 ∧ 0 < t.2.2.1) ∨ ((n : Int) ≤ 2 ∧ 0 < t.2.2.2)) := ho
  rcases (by omega : n = 1 ∨ n = 2 ∨ n = 3) with rfl | rfl | rfl
  · have z1 : t.2.2.1.toNat = 0 := by omega
    have z2 : t.2.2.2.toNat = 0 := by omega
    refine ⟨?_, ?_⟩
    · unfold p3; rw [z1, z2]; simp [exT, tmT]
    · unfold d3; rw [z1, z2]; simp [dgT, tmT]
  · have z2 : t.2.2.2.toNat = 0 := by omega
    refine ⟨?_, ?_⟩
    · unfold p3; rw [z2]; simp [exT, tmT]
    · unfold d3; rw [z2]; simp [dgT, tmT]
  · refine ⟨?_, ?_⟩
    · unfold p3; simp [exT, tmT]
    · unfold d3; simp [dgT, tmT]
/-- Simpson's rule, exact up to the power 3. -/
theorem simpson {u v Q : Int} : ∀ {e : Nat}, 1 ≤ e → e ≤ 3 → 6 * (u ^ e - v ^ e) * 2 ^ (e - 1) * Q = (u - v) * (e * (2 * v) ^ (e - 1) + 4 * (e * (u + v) ^ (e - 1)) + e * (2 * u) ^ (e - 1)) * Q := by
  intro e h1 h3
  rcases (by omega : e = 1 ∨ e = 2 ∨ e = 3) with rfl | rfl | rfl
  · simp; grind
  · simp [Int.pow_succ]; grind
  · simp [Int.pow_succ]; grind
/-- A term, by the unknown 0. -/
theorem term_0 {t : Tm} (ht : tmP t) (hk : ¬ tmT t 0 = 0) (u v X Y : Int) :
    48000 * (p3 t u X Y * 1000 ^ (3 - d3 t) - p3 t v X Y * 1000 ^ (3 - d3 t)) =
      (u - v) * (p3 (stT t 0) (2 * v) (2 * X) (2 * Y) * 2000 ^ (3 - d3 (stT t 0)) + 4 * (p3 (stT t 0) (u + v) (2 * X) (2 * Y) * 2000 ^ (3 - d3 (stT t 0))) + p3 (stT t 0) (2 * u) (2 * X) (2 * Y) * 2000 ^ (3 - d3 (stT t 0))) := by
  obtain ⟨c, a, b, d⟩ := t
  obtain ⟨_, ⟨a1, a2⟩, ⟨b1, b2⟩, ⟨c1, c2⟩, hs⟩ := ht
  simp only [tmT] at hk
  simp only at a1 a2 b1 b2 c1 c2 hs
  simp at hk
  rcases (by omega : a = 1 ∨ a = 2 ∨ a = 3) with rfl | rfl | rfl
  · rcases (by omega : b = 0 ∨ b = 1 ∨ b = 2) with rfl | rfl | rfl
    · rcases (by omega : d = 0 ∨ d = 1 ∨ d = 2) with rfl | rfl | rfl <;> simp [p3, stT, d3, Int.pow_succ] <;> grind
    · rcases (by omega : d = 0 ∨ d = 1) with rfl | rfl <;> simp [p3, stT, d3, Int.pow_succ] <;> grind
    · obtain rfl : d = 0 := by omega
      simp [p3, stT, d3, Int.pow_succ]; grind
  · rcases (by omega : b = 0 ∨ b = 1) with rfl | rfl
    · rcases (by omega : d = 0 ∨ d = 1) with rfl | rfl <;> simp [p3, stT, d3, Int.pow_succ] <;> grind
    · obtain rfl : d = 0 := by omega
      simp [p3, stT, d3, Int.pow_succ]; grind
  · obtain rfl : b = 0 := by omega
    obtain rfl : d = 0 := by omega
    simp [p3, stT, d3, Int.pow_succ]; grind
/-- A term, by the unknown 1. -/
theorem term_1 {t : Tm} (ht : tmP t) (hk : ¬ tmT t 1 = 0) (u v X Y : Int) :
    48000 * (p3 t X u Y * 1000 ^ (3 - d3 t) - p3 t X v Y * 1000 ^ (3 - d3 t)) =
      (u - v) * (p3 (stT t 1) (2 * X) (2 * v) (2 * Y) * 2000 ^ (3 - d3 (stT t 1)) + 4 * (p3 (stT t 1) (2 * X) (u + v) (2 * Y) * 2000 ^ (3 - d3 (stT t 1))) + p3 (stT t 1) (2 * X) (2 * u) (2 * Y) * 2000 ^ (3 - d3 (stT t 1))) := by
  obtain ⟨c, a, b, d⟩ := t
  obtain ⟨_, ⟨a1, a2⟩, ⟨b1, b2⟩, ⟨c1, c2⟩, hs⟩ := ht
  simp only [tmT] at hk
  simp only at a1 a2 b1 b2 c1 c2 hs
  simp at hk
  rcases (by omega : b = 1 ∨ b = 2 ∨ b = 3) with rfl | rfl | rfl
  · rcases (by omega : a = 0 ∨ a = 1 ∨ a = 2) with rfl | rfl | rfl
    · rcases (by omega : d = 0 ∨ d = 1 ∨ d = 2) with rfl | rfl | rfl <;> simp [p3, stT, d3, Int.pow_succ] <;> grind
    · rcases (by omega : d = 0 ∨ d = 1) with rfl | rfl <;> simp [p3, stT, d3, Int.pow_succ] <;> grind
    · obtain rfl : d = 0 := by omega
      simp [p3, stT, d3, Int.pow_succ]; grind
  · rcases (by omega : a = 0 ∨ a = 1) with rfl | rfl
    · rcases (by omega : d = 0 ∨ d = 1) with rfl | rfl <;> simp [p3, stT, d3, Int.pow_succ] <;> grind
    · obtain rfl : d = 0 := by omega
      simp [p3, stT, d3, Int.pow_succ]; grind
  · obtain rfl : a = 0 := by omega
    obtain rfl : d = 0 := by omega
    simp [p3, stT, d3, Int.pow_succ]; grind
/-- A term, by the unknown 2. -/
theorem term_2 {t : Tm} (ht : tmP t) (hk : ¬ tmT t 2 = 0) (u v X Y : Int) :
    48000 * (p3 t X Y u * 1000 ^ (3 - d3 t) - p3 t X Y v * 1000 ^ (3 - d3 t)) =
      (u - v) * (p3 (stT t 2) (2 * X) (2 * Y) (2 * v) * 2000 ^ (3 - d3 (stT t 2)) + 4 * (p3 (stT t 2) (2 * X) (2 * Y) (u + v) * 2000 ^ (3 - d3 (stT t 2))) + p3 (stT t 2) (2 * X) (2 * Y) (2 * u) * 2000 ^ (3 - d3 (stT t 2))) := by
  obtain ⟨c, a, b, d⟩ := t
  obtain ⟨_, ⟨a1, a2⟩, ⟨b1, b2⟩, ⟨c1, c2⟩, hs⟩ := ht
  simp only [tmT] at hk
  simp only at a1 a2 b1 b2 c1 c2 hs
  simp at hk
  rcases (by omega : d = 1 ∨ d = 2 ∨ d = 3) with rfl | rfl | rfl
  · rcases (by omega : a = 0 ∨ a = 1 ∨ a = 2) with rfl | rfl | rfl
    · rcases (by omega : b = 0 ∨ b = 1 ∨ b = 2) with rfl | rfl | rfl <;> simp [p3, stT, d3, Int.pow_succ] <;> grind
    · rcases (by omega : b = 0 ∨ b = 1) with rfl | rfl <;> simp [p3, stT, d3, Int.pow_succ] <;> grind
    · obtain rfl : b = 0 := by omega
      simp [p3, stT, d3, Int.pow_succ]; grind
  · rcases (by omega : a = 0 ∨ a = 1) with rfl | rfl
    · rcases (by omega : b = 0 ∨ b = 1) with rfl | rfl <;> simp [p3, stT, d3, Int.pow_succ] <;> grind
    · obtain rfl : b = 0 := by omega
      simp [p3, stT, d3, Int.pow_succ]; grind
  · obtain rfl : a = 0 := by omega
    obtain rfl : b = 0 := by omega
    simp [p3, stT, d3, Int.pow_succ]; grind
theorem st_ok {t : Tm} {n : Int} {k : Nat} (ht : tmP t) (ho : ¬ tmO t n) (hk : ¬ tmT t k = 0) (hm : may (stT t k).1 = true) : tmP (stT t k) ∧ ¬ tmO (stT t k) n := by
  obtain ⟨m, ⟨a1, a2⟩, ⟨b1, b2⟩, ⟨c1, c2⟩, hs⟩ := ht
  have o : ¬ ((n ≤ 1 ∧ 0 < t.2.2.1) ∨ (n ≤ 2 ∧ 0 < t.2.2.2)) := ho
  unfold tmT at hk
  unfold stT at hm ⊢
  by_cases k0 : k = 0
  · rw [if_pos k0] at hk hm ⊢
    exact ⟨⟨hm, ⟨by show 0 ≤ t.2.1 - 1; omega, by show t.2.1 - 1 ≤ 3; omega⟩, ⟨b1, b2⟩, ⟨c1, c2⟩, by show t.2.1 - 1 + t.2.2.1 + t.2.2.2 ≤ 3; omega⟩, o⟩
  · rw [if_neg k0] at hk hm ⊢
    by_cases k1 : k = 1
    · rw [if_pos k1] at hk hm ⊢
      exact ⟨⟨hm, ⟨a1, a2⟩, ⟨by show 0 ≤ t.2.2.1 - 1; omega, by show t.2.2.1 - 1 ≤ 3; omega⟩, ⟨c1, c2⟩, by show t.2.1 + (t.2.2.1 - 1) + t.2.2.2 ≤ 3; omega⟩, by show ¬ ((n ≤ 1 ∧ 0 < t.2.2.1 - 1) ∨ (n ≤ 2 ∧ 0 < t.2.2.2)); omega⟩
    · rw [if_neg k1] at hk hm ⊢
      exact ⟨⟨hm, ⟨a1, a2⟩, ⟨b1, b2⟩, ⟨by show 0 ≤ t.2.2.2 - 1; omega, by show t.2.2.2 - 1 ≤ 3; omega⟩, by show t.2.1 + t.2.2.1 + (t.2.2.2 - 1) ≤ 3; omega⟩, by show ¬ ((n ≤ 1 ∧ 0 < t.2.2.1) ∨ (n ≤ 2 ∧ 0 < t.2.2.2 - 1)); omega⟩
/-- Two points that differ in the unknown k alone; twice them, and what lies between. -/
structure Apart (k : Nat) (X Y X2 Y2 M : List Int) : Prop where
  other : ∀ j, j ≠ k → nm Y j = nm X j
  x2 : ∀ j, nm X2 j = 2 * nm X j
  y2 : ∀ j, nm Y2 j = 2 * nm Y j
  mid : ∀ j, nm M j = if j = k then nm X k + nm Y k else 2 * nm X j
theorem term_diff {t : Tm} {n k : Nat} {X Y X2 Y2 M : List Int} (ht : tmP t) (ho : ¬ tmO t n) (h1 : 1 ≤ n) (h3 : n ≤ 3) (hkn : k < n) (hk : ¬ tmT t k = 0) (hm : may (stT t k).1 = true) (hA : Apart k X Y X2 Y2 M) :
    48000 * (exT t X n * 1000 ^ (3 - dgT t n) - exT t Y n * 1000 ^ (3 - dgT t n)) =
      (nm X k - nm Y k) * (exT (stT t k) Y2 n * 2000 ^ (3 - dgT (stT t k) n) + 4 * (exT (stT t k) M n * 2000 ^ (3 - dgT (stT t k) n)) + exT (stT t k) X2 n * 2000 ^ (3 - dgT (stT t k) n)) := by
  obtain ⟨sp, so⟩ := st_ok ht ho hk hm
  rw [(ex_three (x := X) ht ho h1 h3).1, (ex_three (x := Y) ht ho h1 h3).1, (ex_three (x := X) ht ho h1 h3).2, (ex_three (x := Y2) sp so h1 h3).1, (ex_three (x := M) sp so h1 h3).1, (ex_three (x := X2) sp so h1 h3).1, (ex_three (x := X) sp so h1 h3).2]
  simp only [hA.x2, hA.y2, hA.mid]
  rcases (by omega : k = 0 ∨ k = 1 ∨ k = 2) with rfl | rfl | rfl
  · have e1 := hA.other 1 (by decide)
    have e2 := hA.other 2 (by decide)
    rw [e1, e2]
    simp only [show ((1 : Nat) = 0) = False by simp, show ((2 : Nat) = 0) = False by simp, if_true, if_false]
    exact term_0 ht hk _ _ _ _
  · have e1 := hA.other 0 (by decide)
    have e2 := hA.other 2 (by decide)
    rw [e1, e2]
    simp only [show ((0 : Nat) = 1) = False by simp, show ((2 : Nat) = 1) = False by simp, if_true, if_false]
    exact term_1 ht hk _ _ _ _
  · have e1 := hA.other 0 (by decide)
    have e2 := hA.other 1 (by decide)
    rw [e1, e2]
    simp only [show ((0 : Nat) = 2) = False by simp, show ((1 : Nat) = 2) = False by simp, if_true, if_false]
    exact term_2 ht hk _ _ _ _
theorem term_same {t : Tm} {n k : Nat} {X Y X2 Y2 M : List Int} (ht : tmP t) (ho : ¬ tmO t n) (h1 : 1 ≤ n) (h3 : n ≤ 3) (hkn : k < n) (hk : tmT t k = 0) (hA : Apart k X Y X2 Y2 M) : exT t X n = exT t Y n := by
  rw [(ex_three (x := X) ht ho h1 h3).1, (ex_three (x := Y) ht ho h1 h3).1]
  unfold p3
  unfold tmT at hk
  rcases (by omega : k = 0 ∨ k = 1 ∨ k = 2) with rfl | rfl | rfl
  · rw [hA.other 1 (by decide), hA.other 2 (by decide)]
    simp at hk
    rw [hk]; simp
  · rw [hA.other 0 (by decide), hA.other 2 (by decide)]
    simp at hk
    rw [hk]; simp
  · rw [hA.other 0 (by decide), hA.other 1 (by decide)]
    simp at hk
    rw [hk]; simp
/-- How a polynomial changes by an unknown, the first n terms; the fault. -/
def steepN (f : List Tm) (k : Nat) : Nat → List Tm × Int
  | 0 => ([], 0)
  | i + 1 => if (steepN f k i).2 = 0 then (if tmT (tm f i) k = 0 then steepN f k i else if may (stT (tm f i) k).1 = true then ((steepN f k i).1 ++ [stT (tm f i) k], 0) else ([], 4)) else ([], 4)
theorem steep_succ (f : List Tm) (k i : Nat) : steepN f k (i + 1) = if (steepN f k i).2 = 0 then (if tmT (tm f i) k = 0 then steepN f k i else if may (stT (tm f i) k).1 = true then ((steepN f k i).1 ++ [stT (tm f i) k], 0) else ([], 4)) else ([], 4) := rfl
theorem tm_append {G : List Tm} {t : Tm} : (∀ i, i < G.length → tm (G ++ [t]) i = tm G i) ∧ tm (G ++ [t]) G.length = t := by
  refine ⟨fun i hi => ?_, ?_⟩
  · unfold tm; rw [List.getElem?_append_left hi]
  · unfold tm; rw [List.getElem?_append_right (Nat.le_refl _)]; simp
theorem exQ_congr {q : Int} {m : Nat} {f g : List Tm} {x : List Int} : ∀ {n : Nat}, (∀ i, i < n → tm f i = tm g i) → exQ q m f x n = exQ q m g x n
  | 0, _ => rfl
  | n + 1, h => by
    show exQ q m f x n + exT (tm f n) x m * (1000 * q) ^ (3 - dgT (tm f n) m) = exQ q m g x n + exT (tm g n) x m * (1000 * q) ^ (3 - dgT (tm g n) m)
    rw [exQ_congr fun i hi => h i (by omega), h n (by omega)]
theorem exQ_append (q : Int) (m : Nat) (G : List Tm) (t : Tm) (x : List Int) : exQ q m (G ++ [t]) x (G ++ [t]).length = exQ q m G x G.length + exT t x m * (1000 * q) ^ (3 - dgT t m) := by
  rw [List.length_append]
  show exQ q m (G ++ [t]) x G.length + exT (tm (G ++ [t]) G.length) x m * (1000 * q) ^ (3 - dgT (tm (G ++ [t]) G.length) m) = _
  rw [tm_append.2, exQ_congr tm_append.1]
/-- The terms of it are right, and of as many unknowns. -/
theorem steep_terms {f : List Tm} {n k : Nat} (hf : ∀ i, i < f.length → tmP (tm f i) ∧ ¬ tmO (tm f i) n) : ∀ {i : Nat}, i ≤ f.length → (steepN f k i).2 = 0 → ∀ j, j < (steepN f k i).1.length → tmP (tm (steepN f k i).1 j)
  | 0, _, _, j, hj => absurd hj (Nat.not_lt_zero _)
  | i + 1, hi, h, j, hj => by
    rw [steep_succ] at h hj ⊢
    by_cases c : (steepN f k i).2 = 0
    · rw [if_pos c] at h hj ⊢
      by_cases z : tmT (tm f i) k = 0
      · rw [if_pos z] at h hj ⊢
        exact steep_terms hf (by omega) c j hj
      · rw [if_neg z] at h hj ⊢
        by_cases m : may (stT (tm f i) k).1 = true
        · rw [if_pos m] at hj ⊢
          have hj' : j < (steepN f k i).1.length + 1 := by simpa using hj
          rcases (by omega : j < (steepN f k i).1.length ∨ j = (steepN f k i).1.length) with q | rfl
          · show tmP (tm ((steepN f k i).1 ++ [stT (tm f i) k]) j)
            rw [tm_append.1 j q]
            exact steep_terms hf (by omega) c j q
          · show tmP (tm ((steepN f k i).1 ++ [stT (tm f i) k]) (steepN f k i).1.length)
            rw [tm_append.2]
            exact (st_ok (hf i (by omega)).1 (hf i (by omega)).2 z m).1
        · rw [if_neg m] at h; exact absurd h (by decide)
    · rw [if_neg c] at h; exact absurd h (by decide)
/-- What it changes by an unknown. -/
theorem steep_diff {f : List Tm} {n k : Nat} {X Y X2 Y2 M : List Int} (hf : ∀ i, i < f.length → tmP (tm f i) ∧ ¬ tmO (tm f i) n) (h1 : 1 ≤ n) (h3 : n ≤ 3) (hkn : k < n) (hA : Apart k X Y X2 Y2 M) : ∀ {i : Nat}, i ≤ f.length → (steepN f k i).2 = 0 →
    48000 * (exQ 1 n f X i - exQ 1 n f Y i) = (nm X k - nm Y k) * (exQ 2 n (steepN f k i).1 Y2 (steepN f k i).1.length + 4 * exQ 2 n (steepN f k i).1 M (steepN f k i).1.length + exQ 2 n (steepN f k i).1 X2 (steepN f k i).1.length)
  | 0, _, _ => by
    show 48000 * ((0 : Int) - 0) = (nm X k - nm Y k) * (0 + 4 * 0 + 0)
    simp
  | i + 1, hi, h => by
    rw [steep_succ] at h ⊢
    have hfi := hf i (by omega)
    show 48000 * (exQ 1 n f X i + exT (tm f i) X n * (1000 * 1) ^ (3 - dgT (tm f i) n) - (exQ 1 n f Y i + exT (tm f i) Y n * (1000 * 1) ^ (3 - dgT (tm f i) n))) = _
    have b1 : (1000 * 1 : Int) = 1000 := by decide
    have b2 : (1000 * 2 : Int) = 2000 := by decide
    by_cases c : (steepN f k i).2 = 0
    · rw [if_pos c] at h ⊢
      have ih := steep_diff hf h1 h3 hkn hA (i := i) (by omega) c
      by_cases z : tmT (tm f i) k = 0
      · rw [if_pos z]
        rw [term_same hfi.1 hfi.2 h1 h3 hkn z hA]
        rw [← ih]
        congr 1
        omega
      · rw [if_neg z] at h ⊢
        by_cases m : may (stT (tm f i) k).1 = true
        · rw [if_pos m]
          have td := term_diff hfi.1 hfi.2 h1 h3 hkn z m hA
          show _ = (nm X k - nm Y k) * (exQ 2 n ((steepN f k i).1 ++ [stT (tm f i) k]) Y2 ((steepN f k i).1 ++ [stT (tm f i) k]).length + 4 * exQ 2 n ((steepN f k i).1 ++ [stT (tm f i) k]) M ((steepN f k i).1 ++ [stT (tm f i) k]).length + exQ 2 n ((steepN f k i).1 ++ [stT (tm f i) k]) X2 ((steepN f k i).1 ++ [stT (tm f i) k]).length)
          rw [exQ_append, exQ_append, exQ_append, b1, b2]
          generalize exT (tm f i) X n * 1000 ^ (3 - dgT (tm f i) n) = A1 at *
          generalize exT (tm f i) Y n * 1000 ^ (3 - dgT (tm f i) n) = A2 at *
          generalize exT (stT (tm f i) k) Y2 n * 2000 ^ (3 - dgT (stT (tm f i) k) n) = B1 at *
          generalize exT (stT (tm f i) k) M n * 2000 ^ (3 - dgT (stT (tm f i) k) n) = B2 at *
          generalize exT (stT (tm f i) k) X2 n * 2000 ^ (3 - dgT (stT (tm f i) k) n) = B3 at *
          generalize exQ 2 n (steepN f k i).1 Y2 (steepN f k i).1.length = C1 at *
          generalize exQ 2 n (steepN f k i).1 M (steepN f k i).1.length = C2 at *
          generalize exQ 2 n (steepN f k i).1 X2 (steepN f k i).1.length = C3 at *
          generalize exQ 1 n f X i = E1 at *
          generalize exQ 1 n f Y i = E2 at *
          generalize nm X k - nm Y k = W at *
          have r : W * (C1 + B1 + 4 * (C2 + B2) + (C3 + B3)) = W * (C1 + 4 * C2 + C3) + W * (B1 + 4 * B2 + B3) := by grind
          rw [r, ← ih, ← td]
          omega
        · rw [if_neg m] at h; exact absurd h (by decide)
    · rw [if_neg c] at h; exact absurd h (by decide)
/-- The fault-free range of how it changes bounds what it changes. -/
theorem near_one {f : List Tm} {b : List (Int × Int)} {k : Nat} {X Y X2 Y2 M : List Int} (hf : ∀ i, i < f.length → tmP (tm f i) ∧ ¬ tmO (tm f i) b.length) (hb : boxF b = 0) (hkn : k < b.length) (hA : Apart k X Y X2 Y2 M) (hX : hasP b X) (hY : hasP b Y)
    (hs : (steepN f k f.length).2 = 0) (hr : (frR (steepN f k f.length).1 b).2.2 = 0) :
    1000 * ab (exQ 1 b.length f X f.length - exQ 1 b.length f Y f.length) ≤ ab (nm X k - nm Y k) * (1000000000 * (farR (frR (steepN f k f.length).1 b).1 (frR (steepN f k f.length).1 b).2.1).2) := by
  have hl := box_len hb
  have d := steep_diff hf hl.1 hl.2 hkn hA (Nat.le_refl _) hs
  have ts := steep_terms hf (Nat.le_refl _) hs
  have qX : hasQ 2 b X2 := fun i hi => by have := hX i hi; rw [hA.x2]; omega
  have qY : hasQ 2 b Y2 := fun i hi => by have := hY i hi; rw [hA.y2]; omega
  have qM : hasQ 2 b M := fun i hi => by
    have u := hX i hi
    have v := hY i hi
    rw [hA.mid]
    by_cases e : i = k
    · subst e; rw [if_pos rfl]; omega
    · rw [if_neg e]; omega
  obtain ⟨a1, a2⟩ := sum_q (by decide) ts hb qX (Nat.le_refl _) hr
  obtain ⟨b1, b2⟩ := sum_q (by decide) ts hb qY (Nat.le_refl _) hr
  obtain ⟨c1, c2⟩ := sum_q (by decide) ts hb qM (Nat.le_refl _) hr
  have p8 : ((1000 * 2 : Int)) ^ 3 = 8000000000 := by decide
  rw [p8] at a1 a2 b1 b2 c1 c2
  have eR : sumN (steepN f k f.length).1 b (steepN f k f.length).1.length = frR (steepN f k f.length).1 b := rfl
  rw [eR] at a1 a2 b1 b2 c1 c2
  have o := (chk_ok.1 (sum_chk ts hb (Nat.le_refl _) hr)).2.2
  rw [eR] at o
  generalize frR (steepN f k f.length).1 b = D at *
  generalize exQ 2 b.length (steepN f k f.length).1 X2 (steepN f k f.length).1.length = w1 at *
  generalize exQ 2 b.length (steepN f k f.length).1 Y2 (steepN f k f.length).1.length = w2 at *
  generalize exQ 2 b.length (steepN f k f.length).1 M (steepN f k f.length).1.length = w3 at *
  generalize exQ 1 b.length f X f.length - exQ 1 b.length f Y f.length = E at *
  generalize nm X k - nm Y k = z at *
  have F1 : -(farR D.1 D.2.1).2 ≤ D.1 ∧ D.2.1 ≤ (farR D.1 D.2.1).2 := by
    unfold farR ab
    simp only []
    repeat' split
    all_goals omega
  have F0 : 0 ≤ (farR D.1 D.2.1).2 := by have := far_right o; omega
  generalize (farR D.1 D.2.1).2 = F at *
  have W1 : -(48000000000 * F) ≤ w2 + 4 * w3 + w1 := by omega
  have W2 : w2 + 4 * w3 + w1 ≤ 48000000000 * F := by omega
  generalize w2 + 4 * w3 + w1 = W at *
  have key : 48000 * ab E ≤ ab z * (48000000000 * F) := by
    have t : ab (z * W) ≤ ab z * (48000000000 * F) := by
      have zz := ab_nonneg z
      have e1 := Int.mul_le_mul_of_nonneg_left W2 zz
      have e2 := Int.mul_le_mul_of_nonneg_left W1 zz
      rw [Int.mul_neg] at e2
      rcases Int.lt_or_le z 0 with c | c
      · have az : ab z = -z := by unfold ab; rw [if_pos c]
        rw [az, Int.neg_mul, Int.neg_mul] at e1 e2
        rw [az, Int.neg_mul]
        unfold ab
        split <;> omega
      · have az : ab z = z := by unfold ab; rw [if_neg (by omega)]
        rw [az] at e1 e2 ⊢
        unfold ab
        split <;> omega
    rw [← d] at t
    have : ab (48000 * E) = 48000 * ab E := by
      unfold ab
      by_cases c : E < 0
      · rw [if_pos c, if_pos (by omega)]; omega
      · rw [if_neg c, if_neg (by omega)]
    rw [this] at t
    exact t
  have e1 : ab z * (48000000000 * F) = 48 * (ab z * (1000000000 * F)) := by grind
  rw [e1] at key
  omega
/-- The first k unknowns of one point, the others of another one. -/
def mixL (n : Nat) (x y : List Int) (k : Nat) : List Int := (List.range n).map fun j => if j < k then nm x j else nm y j
def dblL (x : List Int) : List Int := x.map (2 * ·)
def midL (n : Nat) (x y : List Int) (k : Nat) : List Int := (List.range n).map fun j => if j = k then nm x j + nm y j else 2 * nm x j
theorem nm_map {n : Nat} {g : Nat → Int} {j : Nat} : nm ((List.range n).map g) j = if j < n then g j else 0 := by
  unfold nm
  by_cases h : j < n
  · rw [if_pos h]; simp [h]
  · rw [if_neg h]; simp [h]
theorem nm_dbl (x : List Int) (j : Nat) : nm (dblL x) j = 2 * nm x j := by
  unfold nm dblL
  rw [List.getElem?_map]
  cases x[j]? <;> rfl
theorem mix_has {b : List (Int × Int)} {x y : List Int} (hx : hasP b x) (hy : hasP b y) (k : Nat) : hasP b (mixL b.length x y k) := fun i hi => by
  unfold mixL
  rw [nm_map, if_pos hi]
  split
  · exact hx i hi
  · exact hy i hi
theorem mix_apart {n : Nat} {x y : List Int} {k : Nat} (hk : k < n) : Apart k (mixL n x y (k + 1)) (mixL n x y k) (dblL (mixL n x y (k + 1))) (dblL (mixL n x y k)) (midL n (mixL n x y (k + 1)) (mixL n x y k) k) := by
  refine ⟨fun j hj => ?_, nm_dbl _, nm_dbl _, fun j => ?_⟩
  · unfold mixL
    rw [nm_map, nm_map]
    by_cases h : j < n
    · rw [if_pos h, if_pos h]
      by_cases c : j < k
      · rw [if_pos c, if_pos (by omega)]
      · rw [if_neg c, if_neg (by omega)]
    · rw [if_neg h, if_neg h]
  · unfold midL
    rw [nm_map]
    by_cases h : j < n
    · rw [if_pos h]
      by_cases c : j = k
      · subst c; simp
      · rw [if_neg c, if_neg c]
    · rw [if_neg h, if_neg (by omega)]
      unfold mixL
      rw [nm_map, if_neg h]; rfl
theorem exT_congr {t : Tm} {x y : List Int} : ∀ {n : Nat}, (∀ j, j < n → nm x j = nm y j) → exT t x n = exT t y n
  | 0, _ => rfl
  | n + 1, h => by
    show exT t x n * nm x n ^ (tmT t n).toNat = exT t y n * nm y n ^ (tmT t n).toNat
    rw [exT_congr fun j hj => h j (by omega), h n (by omega)]
theorem exQ_point {q : Int} {m : Nat} {f : List Tm} {x y : List Int} (h : ∀ j, j < m → nm x j = nm y j) : ∀ n, exQ q m f x n = exQ q m f y n
  | 0 => rfl
  | n + 1 => by
    show exQ q m f x n + exT (tm f n) x m * (1000 * q) ^ (3 - dgT (tm f n) m) = exQ q m f y n + exT (tm f n) y m * (1000 * q) ^ (3 - dgT (tm f n) m)
    rw [exQ_point h n, exT_congr h]
theorem exS_Q {f : List Tm} {x : List Int} {m : Nat} (h : x.length = m) : ∀ n, exS f x n = exQ 1 m f x n
  | 0 => rfl
  | n + 1 => by
    show exS f x n + exT (tm f n) x x.length * 1000 ^ (3 - dgT (tm f n) x.length) = exQ 1 m f x n + exT (tm f n) x m * (1000 * 1) ^ (3 - dgT (tm f n) m)
    rw [exS_Q h n, h, show (1000 * 1 : Int) = 1000 by decide]
/-- How far each range of how it changes is from 0, added up, the first k. -/
def farS (f : List Tm) (b : List (Int × Int)) : Nat → Int
  | 0 => 0
  | k + 1 => farS f b k + (farR (frR (steepN f k f.length).1 b).1 (frR (steepN f k f.length).1 b).2.1).2
theorem ab_add (a b : Int) : ab (a + b) ≤ ab a + ab b := by
  unfold ab
  repeat' split
  all_goals omega
theorem near_mix {f : List Tm} {b : List (Int × Int)} {x y : List Int} {far : Int} (hf : ∀ i, i < f.length → tmP (tm f i) ∧ ¬ tmO (tm f i) b.length) (hb : boxF b = 0) (hX : hasP b x) (hY : hasP b y)
    (hs : ∀ k, k < b.length → (steepN f k f.length).2 = 0 ∧ (frR (steepN f k f.length).1 b).2.2 = 0) (hfar : ∀ k, k < b.length → ab (nm x k - nm y k) ≤ far) : ∀ k, k ≤ b.length →
    1000 * ab (exQ 1 b.length f (mixL b.length x y k) f.length - exQ 1 b.length f (mixL b.length x y 0) f.length) ≤ 1000000000 * (farS f b k * far)
  | 0, _ => by
    rw [Int.sub_self]
    show 1000 * ab 0 ≤ 1000000000 * (0 * far)
    rw [Int.zero_mul]; decide
  | k + 1, hk => by
    have ih := near_mix hf hb hX hY hs hfar k (by omega)
    have o := near_one hf hb (show k < b.length by omega) (mix_apart (show k < b.length by omega)) (mix_has hX hY (k + 1)) (mix_has hX hY k) (hs k (by omega)).1 (hs k (by omega)).2
    have e : nm (mixL b.length x y (k + 1)) k - nm (mixL b.length x y k) k = nm x k - nm y k := by
      unfold mixL
      rw [nm_map, nm_map, if_pos (by omega), if_pos (by omega), if_pos (by omega), if_neg (by omega)]
    rw [e] at o
    have hz := hfar k (by omega)
    have F0 : 0 ≤ (farR (frR (steepN f k f.length).1 b).1 (frR (steepN f k f.length).1 b).2.1).2 := by
      unfold farR
      have := ab_nonneg (frR (steepN f k f.length).1 b).1
      show 0 ≤ max _ _
      omega
    have m := Int.mul_le_mul_of_nonneg_right hz (show 0 ≤ 1000000000 * (farR (frR (steepN f k f.length).1 b).1 (frR (steepN f k f.length).1 b).2.1).2 by omega)
    show _ ≤ 1000000000 * ((farS f b k + (farR (frR (steepN f k f.length).1 b).1 (frR (steepN f k f.length).1 b).2.1).2) * far)
    generalize (farR (frR (steepN f k f.length).1 b).1 (frR (steepN f k f.length).1 b).2.1).2 = F at *
    have ad := ab_add (exQ 1 b.length f (mixL b.length x y (k + 1)) f.length - exQ 1 b.length f (mixL b.length x y k) f.length) (exQ 1 b.length f (mixL b.length x y k) f.length - exQ 1 b.length f (mixL b.length x y 0) f.length)
    have ee : exQ 1 b.length f (mixL b.length x y (k + 1)) f.length - exQ 1 b.length f (mixL b.length x y k) f.length + (exQ 1 b.length f (mixL b.length x y k) f.length - exQ 1 b.length f (mixL b.length x y 0) f.length) = exQ 1 b.length f (mixL b.length x y (k + 1)) f.length - exQ 1 b.length f (mixL b.length x y 0) f.length := by omega
    rw [ee] at ad
    have e2 : far * (1000000000 * F) = 1000000000 * (F * far) := by grind
    rw [e2] at m
    rw [Int.add_mul]
    omega
/-- No further apart than the bound says, and one for the rounding. -/
theorem near_all {f : List Tm} {b : List (Int × Int)} {x y : List Int} {far B : Int} (hf : ∀ i, i < f.length → tmP (tm f i) ∧ ¬ tmO (tm f i) b.length) (hb : boxF b = 0) (hX : hasP b x) (hY : hasP b y) (lx : x.length = b.length) (ly : y.length = b.length)
    (hs : ∀ k, k < b.length → (steepN f k f.length).2 = 0 ∧ (frR (steepN f k f.length).1 b).2.2 = 0) (hfar : ∀ k, k < b.length → ab (nm x k - nm y k) ≤ far) (h0 : 0 ≤ far) (hB : farS f b b.length ≤ B) :
    ab (fl (exS f x f.length) 1000000000 - fl (exS f y f.length) 1000000000) * 1000 ≤ B * far + 1000 := by
  have m := near_mix hf hb hX hY hs hfar b.length (Nat.le_refl _)
  have e1 : exQ 1 b.length f (mixL b.length x y b.length) f.length = exS f x f.length := by
    rw [exS_Q lx]
    exact exQ_point (fun j hj => by unfold mixL; rw [nm_map, if_pos hj, if_pos hj]) _
  have e2 : exQ 1 b.length f (mixL b.length x y 0) f.length = exS f y f.length := by
    rw [exS_Q ly]
    exact exQ_point (fun j hj => by unfold mixL; rw [nm_map, if_pos hj, if_neg (Nat.not_lt_zero _)]) _
  rw [e1, e2] at m
  have k := Int.mul_le_mul_of_nonneg_right hB h0
  have s1 := fl_spec_pos (n := exS f x f.length) (d := 1000000000) (by decide)
  have s2 := fl_spec_pos (n := exS f y f.length) (d := 1000000000) (by decide)
  generalize farS f b b.length * far = P at *
  generalize B * far = Q at *
  generalize exS f x f.length = U at *
  generalize exS f y f.length = V at *
  generalize fl U 1000000000 = u at *
  generalize fl V 1000000000 = v at *
  unfold ab at m ⊢
  split at m <;> split <;> omega
end Um
