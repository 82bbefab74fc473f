/-
  What the document's answer (package spanref1) is, function by function: May, Floor, Ceil, Alone, Big, fits, Zero, Times, By.
-/
import Derived.Test.YthgehlonjoafmaaDoorBase
namespace Go.Proofs.YthgehlonjoafmaaDoor
set_option linter.unusedSimpArgs false
open Go.RowKit

theorem rMay_any (n : Int) (w : World) :
    Calls Tryd.prog 49 #[.int .i64 n] w fun e w' => e = .returned (.bool (Um.may n)) ∧ w' = w := by
  by_cases h : -1000000000 ≤ n
  · by_cases h' : n ≤ 1000000000
    · have hm : Hid (Um.may n = true) := (Um.may_iff n).2 ⟨h, h'⟩
      go_enter Tryd.func49, Tryd.ntmps49
      go_wp2
      go_ret
      exact ⟨by rw [hm.out]; simp, rfl⟩
    · have hm : Hid (Um.may n = false) := (Um.may_not n).2 (by omega)
      go_enter Tryd.func49, Tryd.ntmps49
      go_wp2
      go_ret
      exact ⟨by rw [hm.out]; simp, rfl⟩
  · have hm : Hid (Um.may n = false) := (Um.may_not n).2 (by omega)
    have hd : decide (-1000000000 ≤ n) = false := by simpa using h
    go_enter Tryd.func49, Tryd.ntmps49
    go_wp2
    go_ret
    exact ⟨by rw [hm.out]; simp, rfl⟩

theorem fl_tdiv {n d : Int} (hd : 0 < d) : Um.fl n d = if n.tmod d < 0 then n.tdiv d - 1 else n.tdiv d := by
  rw [Um.fl_pos hd]
  split
  · exact (Um.pos_down hd ‹_›).1
  · rcases (by omega : n.tmod d = 0 ∨ 0 < n.tmod d) with h | h
    · exact (Um.pos_zero hd h).1
    · exact (Um.pos_up hd h).1
theorem ce_tdiv {n d : Int} (hd : 0 < d) : Um.ce n d = if 0 < n.tmod d then n.tdiv d + 1 else n.tdiv d := by
  rw [Um.ce_pos hd]
  split
  · have := (Um.pos_up hd ‹_›).2; omega
  · rcases (by omega : n.tmod d = 0 ∨ n.tmod d < 0) with h | h
    · have := (Um.pos_zero hd h).2; omega
    · have := (Um.pos_down hd h).2; omega

theorem rBig_any (lo hi : Int) (w : World) :
    Calls Tryd.prog 40 #[.agg #[.int .i64 lo, .int .i64 hi]] w fun e w' => e = .returned (.bool (!Um.may lo || !Um.may hi)) ∧ w' = w.alloc (.cells #[.int .i64 lo, .int .i64 hi] 28) := by
  cases ha : Um.may lo
  · go_enter Tryd.func40, Tryd.ntmps40
    go_wp2_with (go_at_call 49; refine (rMay_any _ _).mono ?_; rintro e w' ⟨rfl, rfl⟩)
    go_returns
    exact ⟨rfl, rfl⟩
  · go_enter Tryd.func40, Tryd.ntmps40
    go_wp2_with (go_at_call 49; refine (rMay_any _ _).mono ?_; rintro e w' ⟨rfl, rfl⟩)
    go_returns
    exact ⟨rfl, rfl⟩

/-- A span that fits, or none and error 4. -/
def fitR (lo hi : Int) : Int × Int × Int := if Um.may lo = true ∧ Um.may hi = true then (lo, hi, 0) else (0, 0, 4)
theorem fitR_yes {lo hi : Int} (h1 : Um.may lo = true) (h2 : Um.may hi = true) : fitR lo hi = (lo, hi, 0) := by simp [fitR, h1, h2]
theorem fitR_no {lo hi : Int} (h : (!Um.may lo || !Um.may hi) = true) : fitR lo hi = (0, 0, 4) := by
  unfold fitR
  rw [if_neg]
  intro hh
  rw [hh.1, hh.2] at h
  cases h

theorem ret_s3 {a b c a' b' c' : Int} (h1 : a = a') (h2 : b = b') (h3 : c = c') : Ending.returned (.tuple #[.agg #[.int .i64 a, .int .i64 b], .int .i64 c]) = .returned (.tuple #[.agg #[.int .i64 a', .int .i64 b'], .int .i64 c']) := by rw [h1, h2, h3]

/-- The least, and the greatest, of four. -/
def min4 (a b c d : Int) : Int := min (min (min a b) c) d
def max4 (a b c d : Int) : Int := max (max (max a b) c) d

end Go.Proofs.YthgehlonjoafmaaDoor
