/-
  What package span answers: Check, fitting, Add, Less, Hull, Meet, at every argument.
-/
import Derived.Test.YtephdommhcfodaaDoorBase
import Derived.Test.YtephdommhcfodaaDoorMaths
import Derived.Lib.MinMax
namespace Go.Proofs.YtephdommhcfodaaDoor
set_option linter.unusedSimpArgs false
open Go.RowKit

theorem ret_v {a b : Value} (h : a = b) : Ending.returned a = .returned b := by rw [h]
theorem errV1 : errV 1 = .iface 57 (.int .i64 1) := errV_some (by decide)
theorem errV3 : errV 3 = .iface 57 (.int .i64 3) := errV_some (by decide)
theorem errV4 : errV 4 = .iface 57 (.int .i64 4) := errV_some (by decide)
theorem errV5 : errV 5 = .iface 57 (.int .i64 5) := errV_some (by decide)

theorem check_any (lo hi : Int) (w : World) :
    Calls Tryd.prog 37 #[.agg #[.int .i64 lo, .int .i64 hi]] w fun e w' => e = .returned (errV (Um.chk lo hi)) ∧ w' = w.alloc (.cells #[.int .i64 lo, .int .i64 hi] 47) := by
  cases hl : Um.may lo
  · have HR := hid (Um.chk_big (lo := lo) (hi := hi) (by rw [hl]; rfl))
    go_enter Tryd.func37, Tryd.ntmps37
    go_wp2_with (go_at_call 43; refine (mayBe_any _ _).mono ?_; rintro e w1 ⟨rfl, rfl⟩)
    go_returns
    rw [HR.out]
    exact ⟨rfl, rfl⟩
  · cases hh : Um.may hi
    · have HR := hid (Um.chk_big (lo := lo) (hi := hi) (by rw [hl, hh]; rfl))
      go_enter Tryd.func37, Tryd.ntmps37
      go_wp2_with (go_at_call 43; refine (mayBe_any _ _).mono ?_; rintro e w1 ⟨rfl, rfl⟩)
      go_returns
      rw [HR.out]
      exact ⟨rfl, rfl⟩
    · by_cases h : hi < lo
      · have HR := hid (Um.chk_turned (lo := lo) (hi := hi) (by rw [hl, hh]; rfl) h)
        have h' : decide (hi < lo) = true := by simpa using h
        go_enter Tryd.func37, Tryd.ntmps37
        go_wp2_with (go_at_call 43; refine (mayBe_any _ _).mono ?_; rintro e w1 ⟨rfl, rfl⟩)
        go_returns
        rw [HR.out]
        exact ⟨rfl, rfl⟩
      · have HR := hid (Um.chk_right (lo := lo) (hi := hi) (by rw [hl, hh]; rfl) h)
        have h' : decide (hi < lo) = false := by simpa using h
        go_enter Tryd.func37, Tryd.ntmps37
        go_wp2_with (go_at_call 43; refine (mayBe_any _ _).mono ?_; rintro e w1 ⟨rfl, rfl⟩)
        go_returns
        rw [HR.out]
        exact ⟨rfl, rfl⟩

theorem fitting_any (lo hi : Int) (w : World) :
    Calls Tryd.prog 90 #[.int .i64 lo, .int .i64 hi] w fun e w' => e = .returned (.tuple #[.agg #[.int .i64 (Um.fit lo hi).1, .int .i64 (Um.fit lo hi).2.1], errV (Um.fit lo hi).2.2]) ∧ w' = w.alloc (.cells #[.int .i64 (Um.fit lo hi).1, .int .i64 (Um.fit lo hi).2.1] 47) := by
  cases hl : Um.may lo
  · have HR := hid (Um.fit_no (lo := lo) (hi := hi) (by rw [hl]; rfl))
    go_enter Tryd.func90, Tryd.ntmps90
    go_wp2_with (go_at_call 43; refine (mayBe_any _ _).mono ?_; rintro e w1 ⟨rfl, rfl⟩)
    go_returns
    rw [HR.out]
    exact ⟨rfl, rfl⟩
  · cases hh : Um.may hi
    · have HR := hid (Um.fit_no (lo := lo) (hi := hi) (by rw [hl, hh]; rfl))
      go_enter Tryd.func90, Tryd.ntmps90
      go_wp2_with (go_at_call 43; refine (mayBe_any _ _).mono ?_; rintro e w1 ⟨rfl, rfl⟩)
      go_returns
      rw [HR.out]
      exact ⟨rfl, rfl⟩
    · have HR := hid (Um.fit_yes (lo := lo) (hi := hi) (by rw [hl, hh]; rfl))
      go_enter Tryd.func90, Tryd.ntmps90
      go_wp2_with (go_at_call 43; refine (mayBe_any _ _).mono ?_; rintro e w1 ⟨rfl, rfl⟩)
      go_returns
      rw [HR.out]
      exact ⟨rfl, rfl⟩

theorem has_any (lo hi n : Int) (w : World) :
    Calls Tryd.prog 26 #[.agg #[.int .i64 lo, .int .i64 hi], .int .i64 n] w fun e w' => e = .returned (.bool (decide (lo ≤ n) && decide (n ≤ hi))) ∧ w' = w.alloc (.cells #[.int .i64 lo, .int .i64 hi] 47) := by
  by_cases h : lo ≤ n
  · have h' : decide (lo ≤ n) = true := by simpa using h
    go_enter Tryd.func26, Tryd.ntmps26
    go_wp2
    go_returns
    exact ⟨by rw [h']; rfl, rfl⟩
  · have h' : decide (lo ≤ n) = false := by simpa using h
    go_enter Tryd.func26, Tryd.ntmps26
    go_wp2
    go_returns
    exact ⟨rfl, rfl⟩
end Go.Proofs.YtephdommhcfodaaDoor
