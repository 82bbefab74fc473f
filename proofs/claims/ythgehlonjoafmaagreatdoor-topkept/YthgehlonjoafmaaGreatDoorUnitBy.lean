/-
  What unit.By answers, at every argument.
-/
import Derived.Test.YthgehlonjoafmaaGreatDoorTimes
namespace Go.Proofs.YthgehlonjoafmaaGreatDoor
set_option linter.unusedSimpArgs false
open Go.RowKit

theorem thou_bound {a : Int} (ha : Um.may a = true) : -1000000000000000000 ≤ a * 1000 ∧ a * 1000 ≤ 1000000000000000000 := by
  have := (Um.may_iff a).1 ha; omega

set_option maxHeartbeats 1000000 in
theorem by_drew (a b : Int) (w : World) :
    Calls Tryz.prog 82 #[.int .i64 a, .int .i64 b] w fun e w' => e = .returned (.tuple #[.int .i64 (Um.byR a b).1, .int .i64 (Um.byR a b).2.1, errV (Um.byR a b).2.2]) ∧ ∃ q, w' = w.drewN q := by
  cases ha : Um.may a
  · have HF : Hid (Um.byR a b = (0, 0, 1)) := by simp [Hid, Um.byR, ha]
    go_enter Tryz.func82, Tryz.ntmps82
    go_wp2_with (go_at_call 75; refine (mayBe_any _ _).mono ?_; rintro e w' ⟨rfl, rfl⟩)
    go_ret3
    exact ⟨by rw [HF.out]; rfl, ⟨0, rfl⟩⟩
  · cases hb : Um.may b
    · have HF : Hid (Um.byR a b = (0, 0, 1)) := by simp [Hid, Um.byR, hb]
      go_enter Tryz.func82, Tryz.ntmps82
      go_wp2_with (go_at_call 75; refine (mayBe_any _ _).mono ?_; rintro e w' ⟨rfl, rfl⟩)
      go_ret3
      exact ⟨by rw [HF.out]; rfl, ⟨0, rfl⟩⟩
    · by_cases hz : b = 0
      · subst hz
        have HF : Hid (Um.byR a 0 = (0, 0, 8)) := by simp [Hid, Um.byR, ha, hb]
        go_enter Tryz.func82, Tryz.ntmps82
        go_wp2_with (go_at_call 75; refine (mayBe_any _ _).mono ?_; rintro e w' ⟨rfl, rfl⟩)
        go_ret3
        exact ⟨by rw [HF.out]; rfl, ⟨0, rfl⟩⟩
      · have HF : Hid (Um.byR a b = Um.nextR (a * 1000) b) := by simp [Hid, Um.byR, ha, hb, hz]
        have hm := thou_bound ha
        have h1 := hm.1
        have h2 := hm.2
        have hz2 : (b == 0) = false := by simpa using hz
        clear hm
        go_enter Tryz.func82, Tryz.ntmps82
        go_wp2_with (first | (go_at_call 75; refine (mayBe_any _ _).mono ?_; rintro e w' ⟨rfl, rfl⟩) | (go_at_call 96; refine (nextTo_drew _ _ _ hz h1 h2).mono ?_; rintro e w' ⟨rfl, hbl⟩))
        go_ret3
        exact ⟨by rw [HF.out]; rfl, hbl⟩

theorem by_any (a b : Int) (w : World) :
    Calls Tryz.prog 82 #[.int .i64 a, .int .i64 b] w fun e w' => e = .returned (.tuple #[.int .i64 (Um.byR a b).1, .int .i64 (Um.byR a b).2.1, errV (Um.byR a b).2.2]) ∧ Below w.heap.size w w' :=
  (by_drew a b w).mono fun _ _ ⟨he, q, hq⟩ => ⟨he, by rw [hq]; exact below_drewN (Below.refl _ _) _⟩
end Go.Proofs.YthgehlonjoafmaaGreatDoor
