/-
  What the document's answer (package spanref1) is, function by function: May, Floor, Ceil, Alone, Big, fits, Zero, Times, By.
-/
import Derived.Test.YtmkdjaafkigemaaDoorBase
namespace Go.Proofs.YtmkdjaafkigemaaDoor
set_option linter.unusedSimpArgs false
open Go.RowKit

theorem rMay_any (n : Int) (w : World) :
    Calls Tryd.prog 14 #[.int .i64 n] w fun e w' => e = .returned (.bool (Um.may n)) ∧ w' = w := by
  by_cases h : -1000000000 ≤ n
  · by_cases h' : n ≤ 1000000000
    · have hm : Hid (Um.may n = true) := (Um.may_iff n).2 ⟨h, h'⟩
      go_enter Tryd.func14, Tryd.ntmps14
      go_wp2
      go_ret
      exact ⟨by rw [hm.out]; simp, rfl⟩
    · have hm : Hid (Um.may n = false) := (Um.may_not n).2 (by omega)
      go_enter Tryd.func14, Tryd.ntmps14
      go_wp2
      go_ret
      exact ⟨by rw [hm.out]; simp, rfl⟩
  · have hm : Hid (Um.may n = false) := (Um.may_not n).2 (by omega)
    have hd : decide (-1000000000 ≤ n) = false := by simpa using h
    go_enter Tryd.func14, Tryd.ntmps14
    go_wp2
    go_ret
    exact ⟨by rw [hm.out]; simp, rfl⟩

theorem fl_tdiv {n d : Int} (hd : 0 < d) : Um.fl n d = if n.tmod d < 0 then n.tdiv d - 1 else n.tdiv d := by
  rw [Um.fl_pos hd]
  split
  · exact (Um.pos_down hd ‹_›).1
  · rcases (by omega : n.tmod d = 0 ∨ 0 < n.tmod d) with h | h
    · exact (Um.pos_zero hd h).1
    · exact (Um.pos_up hd h).1
theorem ce_tdiv {n d : Int} (hd : 0 < d) : Um.ce n d = if 0 < n.tmod d then n.tdiv d + 1 else n.tdiv d := by
  rw [Um.ce_pos hd]
  split
  · have := (Um.pos_up hd ‹_›).2; omega
  · rcases (by omega : n.tmod d = 0 ∨ n.tmod d < 0) with h | h
    · have := (Um.pos_zero hd h).2; omega
    · have := (Um.pos_down hd h).2; omega

theorem rFloor_any (n d : Int) (w : World) (hd : 0 < d) (h1 : -4000000000000000000 ≤ n) (h2 : n ≤ 4000000000000000000) :
    Calls Tryd.prog 47 #[.int .i64 n, .int .i64 d] w fun e w' => e = .returned (.int .i64 (Um.fl n d)) ∧ w' = w := by
  have hb := Um.tdiv_le n d 4000000000000000000 h1 h2
  have hz : ¬ d = 0 := by omega
  have HF := hid (fl_tdiv (n := n) hd)
  by_cases hr : n.tmod d < 0
  · have hr' : decide (n.tmod d < 0) = true := by simpa using hr
    rw [if_pos hr] at HF
    go_enter Tryd.func47, Tryd.ntmps47
    go_wp2
    go_ret
    exact ⟨by rw [HF.out]; rfl, rfl⟩
  · have hr' : decide (n.tmod d < 0) = false := by simpa using hr
    rw [if_neg hr] at HF
    go_enter Tryd.func47, Tryd.ntmps47
    go_wp2
    go_ret
    exact ⟨by rw [HF.out]; rfl, rfl⟩
theorem rCeil_any (n d : Int) (w : World) (hd : 0 < d) (h1 : -4000000000000000000 ≤ n) (h2 : n ≤ 4000000000000000000) :
    Calls Tryd.prog 48 #[.int .i64 n, .int .i64 d] w fun e w' => e = .returned (.int .i64 (Um.ce n d)) ∧ w' = w := by
  have hb := Um.tdiv_le n d 4000000000000000000 h1 h2
  have hz : ¬ d = 0 := by omega
  have HF := hid (ce_tdiv (n := n) hd)
  by_cases hr : 0 < n.tmod d
  · have hr' : decide (0 < n.tmod d) = true := by simpa using hr
    rw [if_pos hr] at HF
    go_enter Tryd.func48, Tryd.ntmps48
    go_wp2
    go_ret
    exact ⟨by rw [HF.out]; rfl, rfl⟩
  · have hr' : decide (0 < n.tmod d) = false := by simpa using hr
    rw [if_neg hr] at HF
    go_enter Tryd.func48, Tryd.ntmps48
    go_wp2
    go_ret
    exact ⟨by rw [HF.out]; rfl, rfl⟩

theorem rAlone_any (n : Int) (w : World) :
    Calls Tryd.prog 29 #[.int .i64 n] w fun e w' => e = .returned (.agg #[.int .i64 n, .int .i64 n]) ∧ Below w.heap.size w w' := by
  go_enter Tryd.func29, Tryd.ntmps29
  go_wp2
  go_returns
  exact ⟨rfl, by go_grown⟩

theorem rBig_any (lo hi : Int) (w : World) :
    Calls Tryd.prog 52 #[.agg #[.int .i64 lo, .int .i64 hi]] w fun e w' => e = .returned (.bool (!Um.may lo || !Um.may hi)) ∧ w' = w.alloc (.cells #[.int .i64 lo, .int .i64 hi] 55) := by
  cases ha : Um.may lo
  · go_enter Tryd.func52, Tryd.ntmps52
    go_wp2_with (go_at_call 14; refine (rMay_any _ _).mono ?_; rintro e w' ⟨rfl, rfl⟩)
    go_returns
    exact ⟨rfl, rfl⟩
  · go_enter Tryd.func52, Tryd.ntmps52
    go_wp2_with (go_at_call 14; refine (rMay_any _ _).mono ?_; rintro e w' ⟨rfl, rfl⟩)
    go_returns
    exact ⟨rfl, rfl⟩

/-- A span that fits, or none and error 4. -/
def fitR (lo hi : Int) : Int × Int × Int := if Um.may lo = true ∧ Um.may hi = true then (lo, hi, 0) else (0, 0, 4)
theorem fitR_yes {lo hi : Int} (h1 : Um.may lo = true) (h2 : Um.may hi = true) : fitR lo hi = (lo, hi, 0) := by simp [fitR, h1, h2]
theorem fitR_no {lo hi : Int} (h : (!Um.may lo || !Um.may hi) = true) : fitR lo hi = (0, 0, 4) := by
  unfold fitR
  rw [if_neg]
  intro hh
  rw [hh.1, hh.2] at h
  cases h

theorem ret_s3 {a b c a' b' c' : Int} (h1 : a = a') (h2 : b = b') (h3 : c = c') : Ending.returned (.tuple #[.agg #[.int .i64 a, .int .i64 b], .int .i64 c]) = .returned (.tuple #[.agg #[.int .i64 a', .int .i64 b'], .int .i64 c']) := by rw [h1, h2, h3]

theorem rFits_any (lo hi : Int) (w : World) :
    Calls Tryd.prog 36 #[.agg #[.int .i64 lo, .int .i64 hi]] w fun e w' => e = .returned (.tuple #[.agg #[.int .i64 (fitR lo hi).1, .int .i64 (fitR lo hi).2.1], .int .i64 (fitR lo hi).2.2]) ∧ w' = ((w.alloc (.cells #[.int .i64 lo, .int .i64 hi] 55)).alloc (.cells #[.int .i64 (fitR lo hi).1, .int .i64 (fitR lo hi).2.1] 55)).alloc (.cells #[.int .i64 lo, .int .i64 hi] 55) := by
  cases hb : (!Um.may lo || !Um.may hi)
  · have h1 : Um.may lo = true := by cases h : Um.may lo <;> simp [h] at hb ⊢
    have h2 : Um.may hi = true := by cases h : Um.may hi <;> simp [h] at hb ⊢
    have HR := hid (fitR_yes h1 h2)
    clear h1 h2
    go_enter Tryd.func36, Tryd.ntmps36
    go_wp2_with (go_at_call 52; refine (rBig_any _ _ _).mono ?_; rintro e w1 ⟨rfl, rfl⟩)
    go_returns
    rw [HR.out]
    exact ⟨rfl, rfl⟩
  · have HR := hid (fitR_no hb)
    go_enter Tryd.func36, Tryd.ntmps36
    go_wp2_with (go_at_call 52; refine (rBig_any _ _ _).mono ?_; rintro e w1 ⟨rfl, rfl⟩)
    go_returns
    rw [HR.out]
    exact ⟨rfl, rfl⟩

theorem rZero_any (lo hi : Int) (w : World) :
    Calls Tryd.prog 32 #[.agg #[.int .i64 lo, .int .i64 hi]] w fun e w' => e = .returned (.bool (decide (lo ≤ 0) && decide (0 ≤ hi))) ∧ w' = w.alloc (.cells #[.int .i64 lo, .int .i64 hi] 55) := by
  by_cases h : lo ≤ 0
  · have h' : decide (lo ≤ 0) = true := by simpa using h
    go_enter Tryd.func32, Tryd.ntmps32
    go_wp2
    go_returns
    exact ⟨by rw [h']; rfl, rfl⟩
  · have h' : decide (lo ≤ 0) = false := by simpa using h
    go_enter Tryd.func32, Tryd.ntmps32
    go_wp2
    go_returns
    exact ⟨rfl, rfl⟩

/-- The least, and the greatest, of four. -/
def min4 (a b c d : Int) : Int := min (min (min a b) c) d
def max4 (a b c d : Int) : Int := max (max (max a b) c) d

end Go.Proofs.YtmkdjaafkigemaaDoor
