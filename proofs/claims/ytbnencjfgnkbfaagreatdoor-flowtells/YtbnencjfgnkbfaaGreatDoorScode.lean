/-
  Plain arithmetic of a point's move, no program: what is wrong with it; where it goes, unknown by unknown; the fault.
-/
import Derived.Test.YtbnencjfgnkbfaaGreatDoorTcode
import Derived.Test.YtbnencjfgnkbfaaGreatDoorMaths2
namespace Um
set_option linter.unusedSimpArgs false

/-- Is each push in its span? -/
abbrev pushP (p : List (Int × Int)) (q : List Int) : Prop := ∀ i, i < q.length → (sd p i).1 ≤ nm q i ∧ nm q i ≤ (sd p i).2
def movF (s : List (List Tm)) (p : List (Int × Int)) (x q : List Int) : Int := if sysF s p = 0 then (if x.length = s.length ∧ q.length = s.length then (if pushP p q then numsF x else 1) else 3) else sysF s p
theorem mov_sys {s : List (List Tm)} {p : List (Int × Int)} {x q : List Int} (h : ¬ sysF s p = 0) : movF s p x q = sysF s p := by unfold movF; rw [if_neg h]
theorem mov_shape {s : List (List Tm)} {p : List (Int × Int)} {x q : List Int} (h : sysF s p = 0) (h2 : ¬ (x.length = s.length ∧ q.length = s.length)) : movF s p x q = 3 := by unfold movF; rw [if_pos h, if_neg h2]
theorem mov_push {s : List (List Tm)} {p : List (Int × Int)} {x q : List Int} (h : sysF s p = 0) (h2 : x.length = s.length ∧ q.length = s.length) (h3 : ¬ pushP p q) : movF s p x q = 1 := by unfold movF; rw [if_pos h, if_pos h2, if_neg h3]
theorem mov_nums {s : List (List Tm)} {p : List (Int × Int)} {x q : List Int} (h : sysF s p = 0) (h2 : x.length = s.length ∧ q.length = s.length) (h3 : pushP p q) : movF s p x q = numsF x := by unfold movF; rw [if_pos h, if_pos h2, if_pos h3]
theorem mov_ok {s : List (List Tm)} {p : List (Int × Int)} {x q : List Int} : movF s p x q = 0 ↔ sysF s p = 0 ∧ (x.length = s.length ∧ q.length = s.length) ∧ pushP p q ∧ numsF x = 0 := by
  unfold movF
  by_cases h : sysF s p = 0
  · rw [if_pos h]
    by_cases h2 : x.length = s.length ∧ q.length = s.length
    · rw [if_pos h2]
      by_cases h3 : pushP p q
      · rw [if_pos h3]; exact ⟨fun e => ⟨h, h2, h3, e⟩, fun e => e.2.2.2⟩
      · rw [if_neg h3]; exact ⟨fun e => absurd e (by decide), fun e => absurd e.2.2.1 h3⟩
    · rw [if_neg h2]; exact ⟨fun e => absurd e (by decide), fun e => absurd e.2.1 h2⟩
  · rw [if_neg h]; exact ⟨fun e => absurd e h, fun e => absurd e.1 h⟩
/-- Where it goes, the first k unknowns; the fault. -/
def movN (s : List (List Tm)) (x q : List Int) : Nat → List Int × Int
  | 0 => ([], 0)
  | k + 1 => if (movN s x q k).2 = 0 then (if (ptR (nx s k) x).2 = 0 then (if may ((ptR (nx s k) x).1 + nm q k) = true then ((movN s x q k).1 ++ [(ptR (nx s k) x).1 + nm q k], 0) else ([], 4)) else ([], (ptR (nx s k) x).2)) else movN s x q k
theorem movN_succ (s : List (List Tm)) (x q : List Int) (k : Nat) : movN s x q (k + 1) = if (movN s x q k).2 = 0 then (if (ptR (nx s k) x).2 = 0 then (if may ((ptR (nx s k) x).1 + nm q k) = true then ((movN s x q k).1 ++ [(ptR (nx s k) x).1 + nm q k], 0) else ([], 4)) else ([], (ptR (nx s k) x).2)) else movN s x q k := rfl
theorem movN_more {s : List (List Tm)} {x q : List Int} {k : Nat} (h : (movN s x q k).2 = 0) (h1 : (ptR (nx s k) x).2 = 0) (h2 : may ((ptR (nx s k) x).1 + nm q k) = true) : movN s x q (k + 1) = ((movN s x q k).1 ++ [(ptR (nx s k) x).1 + nm q k], 0) := by
  rw [movN_succ, if_pos h, if_pos h1, if_pos h2]
theorem movN_stay {s : List (List Tm)} {x q : List Int} {k : Nat} {e : Int} (h : movN s x q k = ([], e)) (he : ¬ e = 0) : ∀ {n : Nat}, k ≤ n → movN s x q n = ([], e) := by
  intro n hn
  induction n with
  | zero => obtain rfl : k = 0 := by omega
            exact h
  | succ n ih =>
    rcases (by omega : k = n + 1 ∨ k ≤ n) with rfl | g
    · exact h
    · rw [movN_succ, ih g, if_neg he]
theorem movN_bad {s : List (List Tm)} {x q : List Int} {k n : Nat} (hk : k < n) (h : (movN s x q k).2 = 0) (h1 : ¬ (ptR (nx s k) x).2 = 0) : movN s x q n = ([], (ptR (nx s k) x).2) :=
  movN_stay (k := k + 1) (by rw [movN_succ, if_pos h, if_neg h1]) h1 hk
theorem movN_full {s : List (List Tm)} {x q : List Int} {k n : Nat} (hk : k < n) (h : (movN s x q k).2 = 0) (h1 : (ptR (nx s k) x).2 = 0) (h2 : ¬ may ((ptR (nx s k) x).1 + nm q k) = true) : movN s x q n = ([], 4) :=
  movN_stay (k := k + 1) (by rw [movN_succ, if_pos h, if_pos h1, if_neg h2]) (by decide) hk
theorem movN_ok {s : List (List Tm)} {x q : List Int} : ∀ {k : Nat}, (movN s x q k).2 = 0 → (movN s x q k).1.length = k ∧ ∀ i, i < k → (ptR (nx s i) x).2 = 0 ∧ nm (movN s x q k).1 i = (ptR (nx s i) x).1 + nm q i ∧ may ((ptR (nx s i) x).1 + nm q i) = true
  | 0, _ => ⟨rfl, fun i hi => absurd hi (Nat.not_lt_zero _)⟩
  | k + 1, h => by
    have h0 : (movN s x q k).2 = 0 := by
      by_cases c : (movN s x q k).2 = 0
      · exact c
      · rw [movN_succ, if_neg c] at h; exact absurd h c
    have h1 : (ptR (nx s k) x).2 = 0 := by
      by_cases c : (ptR (nx s k) x).2 = 0
      · exact c
      · rw [movN_succ, if_pos h0, if_neg c] at h; exact absurd h c
    have h2 : may ((ptR (nx s k) x).1 + nm q k) = true := by
      by_cases c : may ((ptR (nx s k) x).1 + nm q k) = true
      · exact c
      · rw [movN_succ, if_pos h0, if_pos h1, if_neg c] at h; exact absurd h (by decide)
    obtain ⟨l, g⟩ := movN_ok (k := k) h0
    rw [movN_more h0 h1 h2]
    refine ⟨by rw [List.length_append, l]; rfl, fun i hi => ?_⟩
    rcases (by omega : i < k ∨ i = k) with c | rfl
    · obtain ⟨a, b, d⟩ := g i c
      refine ⟨a, ?_, d⟩
      unfold nm at b ⊢
      rw [List.getElem?_append_left (by omega)]
      exact b
    · refine ⟨h1, ?_, h2⟩
      show ((movN s x q i).1 ++ [(ptR (nx s i) x).1 + nm q i])[i]?.getD 0 = _
      rw [List.getElem?_append_right (by omega), l]
      simp
def movAll (s : List (List Tm)) (p : List (Int × Int)) (x q : List Int) : List Int × Int := if movF s p x q = 0 then movN s x q s.length else ([], movF s p x q)
theorem movAll_not {s : List (List Tm)} {p : List (Int × Int)} {x q : List Int} (h : ¬ movF s p x q = 0) : movAll s p x q = ([], movF s p x q) := by unfold movAll; rw [if_neg h]
theorem movAll_yes {s : List (List Tm)} {p : List (Int × Int)} {x q : List Int} (h : movF s p x q = 0) : movAll s p x q = movN s x q s.length := by unfold movAll; rw [if_pos h]
theorem movAll_most {s : List (List Tm)} {p : List (Int × Int)} {x q : List Int} : (movAll s p x q).1.length ≤ 3 ∨ movAll s p x q = ([], movF s p x q) ∨ ¬ (movAll s p x q).2 = 0 := by
  by_cases h : movF s p x q = 0
  · rw [movAll_yes h]
    by_cases h2 : (movN s x q s.length).2 = 0
    · left
      rw [(movN_ok h2).1]
      exact (sys_ok.1 (mov_ok.1 h).1).2.1
    · exact .inr (.inr h2)
  · exact .inr (.inl (movAll_not h))
/-- What may be next, whatever they are; the fault. -/
def ofAll (s : List (List Tm)) (p b : List (Int × Int)) : List (Int × Int) × Int := if readyF s p b = 0 then behR s p b else ([], readyF s p b)
theorem ofAll_not {s : List (List Tm)} {p b : List (Int × Int)} (h : ¬ readyF s p b = 0) : ofAll s p b = ([], readyF s p b) := by unfold ofAll; rw [if_neg h]
theorem ofAll_yes {s : List (List Tm)} {p b : List (Int × Int)} (h : readyF s p b = 0) : ofAll s p b = behR s p b := by unfold ofAll; rw [if_pos h]
theorem ofAll_good {s : List (List Tm)} {p b : List (Int × Int)} (h : (ofAll s p b).2 = 0) : readyF s p b = 0 ∧ ofAll s p b = behR s p b ∧ (behR s p b).2 = 0 := by
  by_cases c : readyF s p b = 0
  · rw [ofAll_yes c] at h ⊢; exact ⟨c, rfl, h⟩
  · rw [ofAll_not c] at h; exact absurd h c
theorem ofAll_most (s : List (List Tm)) (p b : List (Int × Int)) : (ofAll s p b).1.length ≤ 1000 := by
  by_cases h : (ofAll s p b).2 = 0
  · obtain ⟨h0, e, h2⟩ := ofAll_good h
    rw [e, (next_box h0 h2).2]
    have := (sys_ok.1 (ready_ok.1 h0).1).2.1
    omega
  · by_cases c : readyF s p b = 0
    · rw [ofAll_yes c] at h ⊢
      have := (nextN_fault s p b s.length).resolve_left h
      unfold behR
      rw [this]
      simp
    · rw [ofAll_not c]; simp
theorem movAll_good {s : List (List Tm)} {p : List (Int × Int)} {x q : List Int} (h : (movAll s p x q).2 = 0) : movF s p x q = 0 ∧ movAll s p x q = movN s x q s.length ∧ (movN s x q s.length).2 = 0 := by
  by_cases c : movF s p x q = 0
  · rw [movAll_yes c] at h ⊢; exact ⟨c, rfl, h⟩
  · rw [movAll_not c] at h; exact absurd h c
theorem movN_none {s : List (List Tm)} {x q : List Int} : ∀ {k : Nat}, ¬ (movN s x q k).2 = 0 → (movN s x q k).1 = []
  | 0, h => absurd rfl h
  | k + 1, h => by
    rw [movN_succ] at h ⊢
    by_cases c : (movN s x q k).2 = 0
    · rw [if_pos c] at h ⊢
      by_cases c1 : (ptR (nx s k) x).2 = 0
      · rw [if_pos c1] at h ⊢
        by_cases c2 : may ((ptR (nx s k) x).1 + nm q k) = true
        · rw [if_pos c2] at h; exact absurd rfl h
        · rw [if_neg c2]
      · rw [if_neg c1]
    · rw [if_neg c]; exact movN_none c
theorem movAll_none {s : List (List Tm)} {p : List (Int × Int)} {x q : List Int} (h : ¬ (movAll s p x q).2 = 0) : (movAll s p x q).1 = [] := by
  by_cases c : movF s p x q = 0
  · rw [movAll_yes c] at h ⊢; exact movN_none h
  · rw [movAll_not c]
theorem movAll_five (s : List (List Tm)) (p : List (Int × Int)) (x q : List Int) : (movAll s p x q).1.length ≤ 5 := by
  by_cases h : (movAll s p x q).2 = 0
  · obtain ⟨h0, e, h2⟩ := movAll_good h
    rw [e, (movN_ok h2).1]
    have := (sys_ok.1 (mov_ok.1 h0).1).2.1
    omega
  · rw [movAll_none h]; simp
end Um
