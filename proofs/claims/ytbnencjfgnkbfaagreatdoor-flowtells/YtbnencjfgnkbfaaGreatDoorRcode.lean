/-
  Plain arithmetic of boxes step by step, no program: all of them, whatever they are; the fault.
-/
import Derived.Test.YtbnencjfgnkbfaaGreatDoorScode
namespace Um
set_option linter.unusedSimpArgs false

/-- The first k boxes. -/
def tubes (s : List (List Tm)) (p b : List (Int × Int)) (k : Nat) : List (List (Int × Int)) := (List.range k).map fun i => (tubeN s p b i).1
theorem tubes_length (s : List (List Tm)) (p b : List (Int × Int)) (k : Nat) : (tubes s p b k).length = k := by simp [tubes]
theorem tubes_succ (s : List (List Tm)) (p b : List (Int × Int)) (k : Nat) : tubes s p b (k + 1) = tubes s p b k ++ [(tubeN s p b k).1] := by unfold tubes; rw [List.range_succ, List.map_append]; rfl
theorem tubes_get {s : List (List Tm)} {p b : List (Int × Int)} {k j : Nat} (h : j < k) : (tubes s p b k)[j]?.getD [] = (tubeN s p b j).1 := by unfold tubes; simp [h]
theorem tube_down {s : List (List Tm)} {p b : List (Int × Int)} {k : Nat} (h : (tubeN s p b k).2 = 0) : ∀ {j : Nat}, j ≤ k → (tubeN s p b j).2 = 0 := by
  induction k with
  | zero => intro j hj; obtain rfl : j = 0 := by omega
            exact h
  | succ k ih =>
    intro j hj
    rcases (by omega : j = k + 1 ∨ j ≤ k) with rfl | g
    · exact h
    · exact ih (tube_step h).1 g
theorem tube_four (s : List (List Tm)) (p b : List (Int × Int)) (k : Nat) : (tubeN s p b k).2 = 0 ∨ (tubeN s p b k).2 = 4 := by
  cases k with
  | zero => exact .inl rfl
  | succ k =>
    rw [tube_succ]
    split
    · rcases nextN_fault s p (tubeN s p b k).1 s.length with e | e
      · exact .inl e
      · right; unfold behR; rw [e]
    · exact .inr rfl
theorem tube_bad {s : List (List Tm)} {p b : List (Int × Int)} {k n : Nat} (hk : k ≤ n) (h : ¬ (tubeN s p b k).2 = 0) : ¬ (tubeN s p b n).2 = 0 := fun e => h (tube_down e hk)
theorem tubes_some {s : List (List Tm)} {p b : List (Int × Int)} (hr : readyF s p b = 0) {k : Nat} (h : (tubeN s p b k).2 = 0) : (tubeN s p b k).1 ≠ [] ∧ (tubeN s p b k).1.length ≤ 3 := by
  have := (ready_ok.1 (tube_ready hr h)).2.1
  exact ⟨(box_ok.1 this).1, (box_len this).2⟩
/-- Boxes step by step, whatever they are; the fault. -/
def tubeAll (s : List (List Tm)) (p b : List (Int × Int)) (n : Int) : List (List (Int × Int)) × Int :=
  if 0 ≤ n ∧ n ≤ 20 then (if readyF s p b = 0 then (if (tubeN s p b n.toNat).2 = 0 then (tubes s p b (n.toNat + 1), 0) else ([], 4)) else ([], readyF s p b)) else ([], 1)
theorem tubeAll_range {s : List (List Tm)} {p b : List (Int × Int)} {n : Int} (h : ¬ (0 ≤ n ∧ n ≤ 20)) : tubeAll s p b n = ([], 1) := by unfold tubeAll; rw [if_neg h]
theorem tubeAll_not {s : List (List Tm)} {p b : List (Int × Int)} {n : Int} (h : 0 ≤ n ∧ n ≤ 20) (h2 : ¬ readyF s p b = 0) : tubeAll s p b n = ([], readyF s p b) := by unfold tubeAll; rw [if_pos h, if_neg h2]
theorem tubeAll_yes {s : List (List Tm)} {p b : List (Int × Int)} {n : Nat} (h : n ≤ 20) (h2 : readyF s p b = 0) (h3 : (tubeN s p b n).2 = 0) : tubeAll s p b n = (tubes s p b (n + 1), 0) := by
  unfold tubeAll
  rw [if_pos (by omega), if_pos h2, Int.toNat_natCast, if_pos h3]
theorem tubeAll_full {s : List (List Tm)} {p b : List (Int × Int)} {n : Nat} (h : n ≤ 20) (h2 : readyF s p b = 0) (h3 : ¬ (tubeN s p b n).2 = 0) : tubeAll s p b n = ([], 4) := by
  unfold tubeAll
  rw [if_pos (by omega), if_pos h2, Int.toNat_natCast, if_neg h3]
/-- How wide a box is: its widest side. -/
def widthOf (b : List (Int × Int)) : Int := (sd b (wide b)).2 - (sd b (wide b)).1
def widesN (s : List (List Tm)) (p b : List (Int × Int)) (n : Int) : List Int := (tubeAll s p b n).1.map widthOf
/-- A path, the point behind k steps; the fault. -/
def pathN (s : List (List Tm)) (p : List (Int × Int)) (x : List Int) (u : List (List Int)) : Nat → List Int × Int
  | 0 => (x, 0)
  | k + 1 => if (pathN s p x u k).2 = 0 then movAll s p (pathN s p x u k).1 (u[k]?.getD []) else ([], (pathN s p x u k).2)
theorem path_succ (s : List (List Tm)) (p : List (Int × Int)) (x : List Int) (u : List (List Int)) (k : Nat) : pathN s p x u (k + 1) = if (pathN s p x u k).2 = 0 then movAll s p (pathN s p x u k).1 (u[k]?.getD []) else ([], (pathN s p x u k).2) := rfl
def paths (s : List (List Tm)) (p : List (Int × Int)) (x : List Int) (u : List (List Int)) (k : Nat) : List (List Int) := (List.range k).map fun i => (pathN s p x u i).1
theorem paths_length (s : List (List Tm)) (p : List (Int × Int)) (x : List Int) (u : List (List Int)) (k : Nat) : (paths s p x u k).length = k := by simp [paths]
theorem paths_succ (s : List (List Tm)) (p : List (Int × Int)) (x : List Int) (u : List (List Int)) (k : Nat) : paths s p x u (k + 1) = paths s p x u k ++ [(pathN s p x u k).1] := by unfold paths; rw [List.range_succ, List.map_append]; rfl
theorem paths_get {s : List (List Tm)} {p : List (Int × Int)} {x : List Int} {u : List (List Int)} {k j : Nat} (h : j < k) : (paths s p x u k)[j]?.getD [] = (pathN s p x u j).1 := by unfold paths; simp [h]
theorem path_step {s : List (List Tm)} {p : List (Int × Int)} {x : List Int} {u : List (List Int)} {k : Nat} (h : (pathN s p x u (k + 1)).2 = 0) : (pathN s p x u k).2 = 0 ∧ pathN s p x u (k + 1) = movAll s p (pathN s p x u k).1 (u[k]?.getD []) := by
  rw [path_succ] at h ⊢
  by_cases c : (pathN s p x u k).2 = 0
  · rw [if_pos c]; exact ⟨c, rfl⟩
  · rw [if_neg c] at h; exact absurd h c
theorem path_down {s : List (List Tm)} {p : List (Int × Int)} {x : List Int} {u : List (List Int)} {k : Nat} (h : (pathN s p x u k).2 = 0) : ∀ {j : Nat}, j ≤ k → (pathN s p x u j).2 = 0 := by
  induction k with
  | zero => intro j hj; obtain rfl : j = 0 := by omega
            exact h
  | succ k ih =>
    intro j hj
    rcases (by omega : j = k + 1 ∨ j ≤ k) with rfl | g
    · exact h
    · exact ih (path_step h).1 g
theorem path_stay {s : List (List Tm)} {p : List (Int × Int)} {x : List Int} {u : List (List Int)} {k : Nat} (h : ¬ (pathN s p x u k).2 = 0) : ∀ {n : Nat}, k ≤ n → (pathN s p x u n).2 = (pathN s p x u k).2 := by
  intro n hn
  induction n with
  | zero => obtain rfl : k = 0 := by omega
            rfl
  | succ n ih =>
    rcases (by omega : k = n + 1 ∨ k ≤ n) with rfl | g
    · rfl
    · have e := ih g
      rw [path_succ, if_neg (by rw [e]; exact h)]
      exact e
def pathF (s : List (List Tm)) (p : List (Int × Int)) (x : List Int) (u : List (List Int)) : Int := if 20 < u.length then 4 else if sysF s p = 0 then (if x.length = s.length then 0 else 3) else sysF s p
def pathAll (s : List (List Tm)) (p : List (Int × Int)) (x : List Int) (u : List (List Int)) : List (List Int) × Int :=
  if pathF s p x u = 0 then (if (pathN s p x u u.length).2 = 0 then (paths s p x u (u.length + 1), 0) else ([], (pathN s p x u u.length).2)) else ([], pathF s p x u)
theorem pathF_ok {s : List (List Tm)} {p : List (Int × Int)} {x : List Int} {u : List (List Int)} : pathF s p x u = 0 ↔ u.length ≤ 20 ∧ sysF s p = 0 ∧ x.length = s.length := by
  unfold pathF
  by_cases h : 20 < u.length
  · rw [if_pos h]; exact ⟨fun e => absurd e (by decide), fun e => by omega⟩
  · rw [if_neg h]
    by_cases h2 : sysF s p = 0
    · rw [if_pos h2]
      by_cases h3 : x.length = s.length
      · rw [if_pos h3]; exact ⟨fun _ => ⟨by omega, h2, h3⟩, fun _ => rfl⟩
      · rw [if_neg h3]; exact ⟨fun e => absurd e (by decide), fun e => absurd e.2.2 h3⟩
    · rw [if_neg h2]; exact ⟨fun e => absurd e h2, fun e => absurd e.2.1 h2⟩
theorem pathAll_good {s : List (List Tm)} {p : List (Int × Int)} {x : List Int} {u : List (List Int)} (h : (pathAll s p x u).2 = 0) : pathF s p x u = 0 ∧ (pathN s p x u u.length).2 = 0 ∧ pathAll s p x u = (paths s p x u (u.length + 1), 0) := by
  unfold pathAll at h ⊢
  by_cases c : pathF s p x u = 0
  · rw [if_pos c] at h ⊢
    by_cases d : (pathN s p x u u.length).2 = 0
    · rw [if_pos d]; exact ⟨c, d, rfl⟩
    · rw [if_neg d] at h; exact absurd h d
  · rw [if_neg c] at h; exact absurd h c
/-- What At tells is what it is. -/
theorem pt_value {f : List Tm} {x : List Int} (h : (ptR f x).2 = 0) : (ptR f x).1 = fl (exS f x f.length) 1000000000 := by
  unfold ptR at h ⊢
  split at h
  · rename_i c
    rw [if_pos c]
    split at h
    · rename_i m; rw [if_pos m]
    · cases h
  · cases h
/-- No point falls out. -/
theorem move_in {s : List (List Tm)} {p b : List (Int × Int)} {x q : List Int} (h0 : readyF s p b = 0) (h2 : (behR s p b).2 = 0) (hx : hasP b x) (hl : x.length = b.length) (hm : (movAll s p x q).2 = 0) : hasP (behR s p b).1 (movAll s p x q).1 ∧ (movAll s p x q).1.length = (behR s p b).1.length := by
  obtain ⟨m0, e2, m2⟩ := movAll_good hm
  obtain ⟨_, ⟨_, hq⟩, hpu, _⟩ := mov_ok.1 m0
  obtain ⟨l, g⟩ := movN_ok m2
  obtain ⟨_, nl⟩ := next_box h0 h2
  rw [e2]
  refine ⟨next_has h0 hx hl h2 fun i hi => ?_, by rw [l, nl]⟩
  obtain ⟨g1, g2, _⟩ := g i hi
  obtain ⟨p1, p2⟩ := hpu i (by omega)
  exact ⟨nm q i, p1, p2, by rw [g2, pt_value g1]⟩
/-- A path stays in its tube. -/
theorem flow_in {s : List (List Tm)} {p b : List (Int × Int)} {x : List Int} {u : List (List Int)} (h0 : readyF s p b = 0) (hx : hasP b x) (hl : x.length = b.length) : ∀ {k : Nat}, (tubeN s p b k).2 = 0 → (pathN s p x u k).2 = 0 → hasP (tubeN s p b k).1 (pathN s p x u k).1 ∧ (pathN s p x u k).1.length = (tubeN s p b k).1.length
  | 0, _, _ => ⟨hx, hl⟩
  | k + 1, ht, hp => by
    obtain ⟨t0, te⟩ := tube_step ht
    obtain ⟨p0, pe⟩ := path_step hp
    obtain ⟨i1, i2⟩ := flow_in h0 hx hl (k := k) t0 p0
    rw [te] at ht ⊢
    rw [pe] at hp ⊢
    exact move_in (tube_ready h0 t0) ht i1 i2 hp
end Um
