/-
  What the document's answer (package spanref1) to one span is: Span; of two: Hull, Meet.
-/
import Derived.Test.YtmkdjaafkigemaaDoorRef
import Derived.Test.YtmkdjaafkigemaaDoorMaths
namespace Go.Proofs.YtmkdjaafkigemaaDoor
set_option linter.unusedSimpArgs false
open Go.RowKit

theorem rSpan_any (lo hi : Int) (w : World) :
    Calls Tryd.prog 45 #[.agg #[.int .i64 lo, .int .i64 hi]] w fun e w' => e = .returned (.int .i64 (Um.chk lo hi)) ∧ w' = (w.alloc (.cells #[.int .i64 lo, .int .i64 hi] 55)).alloc (.cells #[.int .i64 lo, .int .i64 hi] 55) := by
  cases hb : (!Um.may lo || !Um.may hi)
  · by_cases h : hi < lo
    · have HR := hid (Um.chk_turned hb h)
      have h' : decide (hi < lo) = true := by simpa using h
      go_enter Tryd.func45, Tryd.ntmps45
      go_wp2_with (go_at_call 52; refine (rBig_any _ _ _).mono ?_; rintro e w1 ⟨rfl, rfl⟩)
      go_returns
      rw [HR.out]
      exact ⟨rfl, rfl⟩
    · have HR := hid (Um.chk_right hb h)
      have h' : decide (hi < lo) = false := by simpa using h
      go_enter Tryd.func45, Tryd.ntmps45
      go_wp2_with (go_at_call 52; refine (rBig_any _ _ _).mono ?_; rintro e w1 ⟨rfl, rfl⟩)
      go_returns
      rw [HR.out]
      exact ⟨rfl, rfl⟩
  · have HR := hid (Um.chk_big hb)
    go_enter Tryd.func45, Tryd.ntmps45
    go_wp2_with (go_at_call 52; refine (rBig_any _ _ _).mono ?_; rintro e w1 ⟨rfl, rfl⟩)
    go_returns
    rw [HR.out]
    exact ⟨rfl, rfl⟩

theorem ret_sp {a b a' b' : Int} (h1 : a = a') (h2 : b = b') : Ending.returned (.agg #[.int .i64 a, .int .i64 b]) = .returned (.agg #[.int .i64 a', .int .i64 b']) := by rw [h1, h2]
end Go.Proofs.YtmkdjaafkigemaaDoor
