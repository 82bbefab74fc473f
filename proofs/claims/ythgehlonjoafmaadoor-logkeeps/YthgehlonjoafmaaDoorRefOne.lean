/-
  What the document's answer (package spanref1) to one span is: Span; of two: Hull, Meet.
-/
import Derived.Test.YthgehlonjoafmaaDoorRef
import Derived.Test.YthgehlonjoafmaaDoorMaths
namespace Go.Proofs.YthgehlonjoafmaaDoor
set_option linter.unusedSimpArgs false
open Go.RowKit

theorem rSpan_any (lo hi : Int) (w : World) :
    Calls Tryd.prog 30 #[.agg #[.int .i64 lo, .int .i64 hi]] w fun e w' => e = .returned (.int .i64 (Um.chk lo hi)) ∧ w' = (w.alloc (.cells #[.int .i64 lo, .int .i64 hi] 28)).alloc (.cells #[.int .i64 lo, .int .i64 hi] 28) := by
  cases hb : (!Um.may lo || !Um.may hi)
  · by_cases h : hi < lo
    · have HR := hid (Um.chk_turned hb h)
      have h' : decide (hi < lo) = true := by simpa using h
      go_enter Tryd.func30, Tryd.ntmps30
      go_wp2_with (go_at_call 40; refine (rBig_any _ _ _).mono ?_; rintro e w1 ⟨rfl, rfl⟩)
      go_returns
      rw [HR.out]
      exact ⟨rfl, rfl⟩
    · have HR := hid (Um.chk_right hb h)
      have h' : decide (hi < lo) = false := by simpa using h
      go_enter Tryd.func30, Tryd.ntmps30
      go_wp2_with (go_at_call 40; refine (rBig_any _ _ _).mono ?_; rintro e w1 ⟨rfl, rfl⟩)
      go_returns
      rw [HR.out]
      exact ⟨rfl, rfl⟩
  · have HR := hid (Um.chk_big hb)
    go_enter Tryd.func30, Tryd.ntmps30
    go_wp2_with (go_at_call 40; refine (rBig_any _ _ _).mono ?_; rintro e w1 ⟨rfl, rfl⟩)
    go_returns
    rw [HR.out]
    exact ⟨rfl, rfl⟩

theorem ret_sp {a b a' b' : Int} (h1 : a = a') (h2 : b = b') : Ending.returned (.agg #[.int .i64 a, .int .i64 b]) = .returned (.agg #[.int .i64 a', .int .i64 b']) := by rw [h1, h2]
theorem rHull_any (al ah bl bh : Int) (w : World) :
    Calls Tryd.prog 31 #[.agg #[.int .i64 al, .int .i64 ah], .agg #[.int .i64 bl, .int .i64 bh]] w fun e w' => e = .returned (.agg #[.int .i64 (Um.hullR al ah bl bh).1, .int .i64 (Um.hullR al ah bl bh).2.1]) ∧ Below w.heap.size w w' := by
  have HR : Hid (Um.hullR al ah bl bh = (min al bl, max ah bh, 0)) := rfl
  generalize Um.hullR al ah bl bh = R at *
  go_enter Tryd.func31, Tryd.ntmps31
  go_wp2
  all_goals
    go_returns
    rw [HR.out]
    exact ⟨ret_sp (by simp only []; omega) (by simp only []; omega), by go_grown⟩

end Go.Proofs.YthgehlonjoafmaaDoor
