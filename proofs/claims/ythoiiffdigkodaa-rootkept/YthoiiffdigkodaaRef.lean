/-
  What the document's answer (package spanref1) is, function by function: May, Floor, Ceil, Alone, Big, fits, Zero, Times, By.
-/
import Derived.Test.YthoiiffdigkodaaBase
namespace Go.Proofs.Ythoiiffdigkodaa
set_option linter.unusedSimpArgs false
open Go.RowKit

theorem fl_tdiv {n d : Int} (hd : 0 < d) : Um.fl n d = if n.tmod d < 0 then n.tdiv d - 1 else n.tdiv d := by
  rw [Um.fl_pos hd]
  split
  · exact (Um.pos_down hd ‹_›).1
  · rcases (by omega : n.tmod d = 0 ∨ 0 < n.tmod d) with h | h
    · exact (Um.pos_zero hd h).1
    · exact (Um.pos_up hd h).1
theorem ce_tdiv {n d : Int} (hd : 0 < d) : Um.ce n d = if 0 < n.tmod d then n.tdiv d + 1 else n.tdiv d := by
  rw [Um.ce_pos hd]
  split
  · have := (Um.pos_up hd ‹_›).2; omega
  · rcases (by omega : n.tmod d = 0 ∨ n.tmod d < 0) with h | h
    · have := (Um.pos_zero hd h).2; omega
    · have := (Um.pos_down hd h).2; omega

theorem rFloor_any (n d : Int) (w : World) (hd : 0 < d) (h1 : -4000000000000000000 ≤ n) (h2 : n ≤ 4000000000000000000) :
    Calls Try.prog 18 #[.int .i64 n, .int .i64 d] w fun e w' => e = .returned (.int .i64 (Um.fl n d)) ∧ w' = w := by
  have hb := Um.tdiv_le n d 4000000000000000000 h1 h2
  have hz : ¬ d = 0 := by omega
  have HF := hid (fl_tdiv (n := n) hd)
  by_cases hr : n.tmod d < 0
  · have hr' : decide (n.tmod d < 0) = true := by simpa using hr
    rw [if_pos hr] at HF
    go_enter Try.func18, Try.ntmps18
    go_wp2
    go_ret
    exact ⟨by rw [HF.out]; rfl, rfl⟩
  · have hr' : decide (n.tmod d < 0) = false := by simpa using hr
    rw [if_neg hr] at HF
    go_enter Try.func18, Try.ntmps18
    go_wp2
    go_ret
    exact ⟨by rw [HF.out]; rfl, rfl⟩
theorem rCeil_any (n d : Int) (w : World) (hd : 0 < d) (h1 : -4000000000000000000 ≤ n) (h2 : n ≤ 4000000000000000000) :
    Calls Try.prog 19 #[.int .i64 n, .int .i64 d] w fun e w' => e = .returned (.int .i64 (Um.ce n d)) ∧ w' = w := by
  have hb := Um.tdiv_le n d 4000000000000000000 h1 h2
  have hz : ¬ d = 0 := by omega
  have HF := hid (ce_tdiv (n := n) hd)
  by_cases hr : 0 < n.tmod d
  · have hr' : decide (0 < n.tmod d) = true := by simpa using hr
    rw [if_pos hr] at HF
    go_enter Try.func19, Try.ntmps19
    go_wp2
    go_ret
    exact ⟨by rw [HF.out]; rfl, rfl⟩
  · have hr' : decide (0 < n.tmod d) = false := by simpa using hr
    rw [if_neg hr] at HF
    go_enter Try.func19, Try.ntmps19
    go_wp2
    go_ret
    exact ⟨by rw [HF.out]; rfl, rfl⟩

/-- A span that fits, or none and error 4. -/
def fitR (lo hi : Int) : Int × Int × Int := if Um.may lo = true ∧ Um.may hi = true then (lo, hi, 0) else (0, 0, 4)
theorem fitR_yes {lo hi : Int} (h1 : Um.may lo = true) (h2 : Um.may hi = true) : fitR lo hi = (lo, hi, 0) := by simp [fitR, h1, h2]
theorem fitR_no {lo hi : Int} (h : (!Um.may lo || !Um.may hi) = true) : fitR lo hi = (0, 0, 4) := by
  unfold fitR
  rw [if_neg]
  intro hh
  rw [hh.1, hh.2] at h
  cases h

theorem ret_s3 {a b c a' b' c' : Int} (h1 : a = a') (h2 : b = b') (h3 : c = c') : Ending.returned (.tuple #[.agg #[.int .i64 a, .int .i64 b], .int .i64 c]) = .returned (.tuple #[.agg #[.int .i64 a', .int .i64 b'], .int .i64 c']) := by rw [h1, h2, h3]

/-- The least, and the greatest, of four. -/
def min4 (a b c d : Int) : Int := min (min (min a b) c) d
def max4 (a b c d : Int) : Int := max (max (max a b) c) d

end Go.Proofs.Ythoiiffdigkodaa
