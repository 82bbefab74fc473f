/-
  Plain arithmetic of boxes step by step and of paths, no program: how long they may be, what they are where something is wrong.
-/
import Derived.Test.YtbnencjfgnkbfaaGreatDoorRcode
namespace Um
set_option linter.unusedSimpArgs false

theorem tubeAll_good {s : List (List Tm)} {p b : List (Int × Int)} {n : Int} (h : (tubeAll s p b n).2 = 0) : ∃ k : Nat, n = k ∧ k ≤ 20 ∧ readyF s p b = 0 ∧ (tubeN s p b k).2 = 0 ∧ tubeAll s p b n = (tubes s p b (k + 1), 0) := by
  by_cases c : 0 ≤ n ∧ n ≤ 20
  · obtain ⟨k, rfl⟩ : ∃ k : Nat, n = k := ⟨n.toNat, by omega⟩
    by_cases d : readyF s p b = 0
    · by_cases e : (tubeN s p b k).2 = 0
      · exact ⟨k, rfl, by omega, d, e, tubeAll_yes (by omega) d e⟩
      · rw [tubeAll_full (by omega) d e] at h; exact absurd h (by decide)
    · rw [tubeAll_not c d] at h; exact absurd h d
  · rw [tubeAll_range c] at h; exact absurd h (by decide)
theorem tubeAll_none {s : List (List Tm)} {p b : List (Int × Int)} {n : Int} (h : ¬ (tubeAll s p b n).2 = 0) : (tubeAll s p b n).1 = [] := by
  by_cases c : 0 ≤ n ∧ n ≤ 20
  · obtain ⟨k, rfl⟩ : ∃ k : Nat, n = k := ⟨n.toNat, by omega⟩
    by_cases d : readyF s p b = 0
    · by_cases e : (tubeN s p b k).2 = 0
      · rw [tubeAll_yes (by omega) d e] at h; exact absurd rfl h
      · rw [tubeAll_full (by omega) d e]
    · rw [tubeAll_not c d]
  · rw [tubeAll_range c]
/-- No more than 21 boxes, each of them right. -/
theorem tubeAll_most (s : List (List Tm)) (p b : List (Int × Int)) (n : Int) : (tubeAll s p b n).1.length ≤ 21 ∧ ∀ j, j < (tubeAll s p b n).1.length → boxF ((tubeAll s p b n).1[j]?.getD []) = 0 ∧ ((tubeAll s p b n).1[j]?.getD []).length ≤ 3 := by
  by_cases h : (tubeAll s p b n).2 = 0
  · obtain ⟨k, rfl, hk, hr, hz, e⟩ := tubeAll_good h
    rw [e]
    simp only [tubes_length]
    refine ⟨by omega, fun j hj => ?_⟩
    rw [tubes_get hj]
    have g := tube_down hz (show j ≤ k by omega)
    exact ⟨(ready_ok.1 (tube_ready hr g)).2.1, (tubes_some hr g).2⟩
  · rw [tubeAll_none h]
    exact ⟨by simp, fun j hj => absurd hj (by simp)⟩
theorem pathAll_none {s : List (List Tm)} {p : List (Int × Int)} {x : List Int} {u : List (List Int)} (h : ¬ (pathAll s p x u).2 = 0) : (pathAll s p x u).1 = [] := by
  unfold pathAll at h ⊢
  by_cases c : pathF s p x u = 0
  · rw [if_pos c] at h ⊢
    by_cases d : (pathN s p x u u.length).2 = 0
    · rw [if_pos d] at h; exact absurd rfl h
    · rw [if_neg d]
  · rw [if_neg c]
theorem mov_len {s : List (List Tm)} {p : List (Int × Int)} {x q : List Int} (h : (movAll s p x q).2 = 0) : (movAll s p x q).1.length = s.length := by
  by_cases c : movF s p x q = 0
  · rw [movAll_yes c] at h ⊢
    exact (movN_ok h).1
  · rw [movAll_not c] at h; exact absurd h c
/-- Each point of a path has as many numbers as there are unknowns. -/
theorem path_len {s : List (List Tm)} {p : List (Int × Int)} {x : List Int} {u : List (List Int)} (hx : x.length = s.length) : ∀ {k : Nat}, (pathN s p x u k).2 = 0 → (pathN s p x u k).1.length = s.length
  | 0, _ => hx
  | k + 1, h => by
    obtain ⟨_, e⟩ := path_step h
    rw [e] at h ⊢
    exact mov_len h
theorem pathAll_most (s : List (List Tm)) (p : List (Int × Int)) (x : List Int) (u : List (List Int)) : (pathAll s p x u).1.length ≤ 21 ∧ ∀ j, j < (pathAll s p x u).1.length → ((pathAll s p x u).1[j]?.getD []).length ≤ 5 := by
  by_cases h : (pathAll s p x u).2 = 0
  · obtain ⟨f0, f1, e⟩ := pathAll_good h
    obtain ⟨l20, hsy, hxl⟩ := pathF_ok.1 f0
    rw [e]
    simp only [paths_length]
    refine ⟨by omega, fun j hj => ?_⟩
    rw [paths_get hj, path_len hxl (path_down f1 (show j ≤ u.length by omega))]
    have := (sys_ok.1 hsy).2.1
    omega
  · rw [pathAll_none h]
    exact ⟨by simp, fun j hj => absurd hj (by simp)⟩
/-- The widths of the first k boxes, and of one more. -/
theorem wides_succ {l : List (List (Int × Int))} {k : Nat} (h : k < l.length) : (l.take (k + 1)).map widthOf = (l.take k).map widthOf ++ [widthOf (l[k]?.getD [])] := by
  rw [List.take_add_one, List.map_append]
  simp [List.getElem?_eq_getElem h]
end Um
