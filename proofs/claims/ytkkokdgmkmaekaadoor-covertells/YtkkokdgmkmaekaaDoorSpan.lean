/-
  What package span answers: Check, fitting, Add, Less, Hull, Meet, at every argument.
-/
import Derived.Test.YtkkokdgmkmaekaaDoorBase
import Derived.Test.YtkkokdgmkmaekaaDoorMaths
import Derived.Lib.MinMax
namespace Go.Proofs.YtkkokdgmkmaekaaDoor
set_option linter.unusedSimpArgs false
open Go.RowKit

theorem ret_v {a b : Value} (h : a = b) : Ending.returned a = .returned b := by rw [h]
theorem errV1 : errV 1 = .iface 49 (.int .i64 1) := errV_some (by decide)
theorem errV3 : errV 3 = .iface 49 (.int .i64 3) := errV_some (by decide)
theorem errV4 : errV 4 = .iface 49 (.int .i64 4) := errV_some (by decide)
theorem errV5 : errV 5 = .iface 49 (.int .i64 5) := errV_some (by decide)

theorem check_any (lo hi : Int) (w : World) :
    Calls Tryd.prog 29 #[.agg #[.int .i64 lo, .int .i64 hi]] w fun e w' => e = .returned (errV (Um.chk lo hi)) ∧ w' = w.alloc (.cells #[.int .i64 lo, .int .i64 hi] 45) := by
  cases hl : Um.may lo
  · have HR := hid (Um.chk_big (lo := lo) (hi := hi) (by rw [hl]; rfl))
    go_enter Tryd.func29, Tryd.ntmps29
    go_wp2_with (go_at_call 41; refine (mayBe_any _ _).mono ?_; rintro e w1 ⟨rfl, rfl⟩)
    go_returns
    rw [HR.out]
    exact ⟨rfl, rfl⟩
  · cases hh : Um.may hi
    · have HR := hid (Um.chk_big (lo := lo) (hi := hi) (by rw [hl, hh]; rfl))
      go_enter Tryd.func29, Tryd.ntmps29
      go_wp2_with (go_at_call 41; refine (mayBe_any _ _).mono ?_; rintro e w1 ⟨rfl, rfl⟩)
      go_returns
      rw [HR.out]
      exact ⟨rfl, rfl⟩
    · by_cases h : hi < lo
      · have HR := hid (Um.chk_turned (lo := lo) (hi := hi) (by rw [hl, hh]; rfl) h)
        have h' : decide (hi < lo) = true := by simpa using h
        go_enter Tryd.func29, Tryd.ntmps29
        go_wp2_with (go_at_call 41; refine (mayBe_any _ _).mono ?_; rintro e w1 ⟨rfl, rfl⟩)
        go_returns
        rw [HR.out]
        exact ⟨rfl, rfl⟩
      · have HR := hid (Um.chk_right (lo := lo) (hi := hi) (by rw [hl, hh]; rfl) h)
        have h' : decide (hi < lo) = false := by simpa using h
        go_enter Tryd.func29, Tryd.ntmps29
        go_wp2_with (go_at_call 41; refine (mayBe_any _ _).mono ?_; rintro e w1 ⟨rfl, rfl⟩)
        go_returns
        rw [HR.out]
        exact ⟨rfl, rfl⟩

theorem fitting_any (lo hi : Int) (w : World) :
    Calls Tryd.prog 70 #[.int .i64 lo, .int .i64 hi] w fun e w' => e = .returned (.tuple #[.agg #[.int .i64 (Um.fit lo hi).1, .int .i64 (Um.fit lo hi).2.1], errV (Um.fit lo hi).2.2]) ∧ w' = w.alloc (.cells #[.int .i64 (Um.fit lo hi).1, .int .i64 (Um.fit lo hi).2.1] 45) := by
  cases hl : Um.may lo
  · have HR := hid (Um.fit_no (lo := lo) (hi := hi) (by rw [hl]; rfl))
    go_enter Tryd.func70, Tryd.ntmps70
    go_wp2_with (go_at_call 41; refine (mayBe_any _ _).mono ?_; rintro e w1 ⟨rfl, rfl⟩)
    go_returns
    rw [HR.out]
    exact ⟨rfl, rfl⟩
  · cases hh : Um.may hi
    · have HR := hid (Um.fit_no (lo := lo) (hi := hi) (by rw [hl, hh]; rfl))
      go_enter Tryd.func70, Tryd.ntmps70
      go_wp2_with (go_at_call 41; refine (mayBe_any _ _).mono ?_; rintro e w1 ⟨rfl, rfl⟩)
      go_returns
      rw [HR.out]
      exact ⟨rfl, rfl⟩
    · have HR := hid (Um.fit_yes (lo := lo) (hi := hi) (by rw [hl, hh]; rfl))
      go_enter Tryd.func70, Tryd.ntmps70
      go_wp2_with (go_at_call 41; refine (mayBe_any _ _).mono ?_; rintro e w1 ⟨rfl, rfl⟩)
      go_returns
      rw [HR.out]
      exact ⟨rfl, rfl⟩

end Go.Proofs.YtkkokdgmkmaekaaDoor
