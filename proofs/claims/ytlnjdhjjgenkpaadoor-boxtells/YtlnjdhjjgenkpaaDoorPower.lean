/-
  What package power answers: downward, upward, lowEnd, highEnd, far, Far, Middle, at every argument.
-/
import Derived.Test.YtlnjdhjjgenkpaaDoorTimes
import Derived.Test.YtlnjdhjjgenkpaaDoorSpan
import Derived.Test.YtlnjdhjjgenkpaaDoorMaths
import Derived.LoopTactic
namespace Go.Proofs.YtlnjdhjjgenkpaaDoor
set_option linter.unusedSimpArgs false
open Go.RowKit

theorem ret_ie {a b k l : Int} (h1 : a = b) (h2 : k = l) : Ending.returned (.tuple #[.int .i64 a, errV k]) = .returned (.tuple #[.int .i64 b, errV l]) := by rw [h1, h2]

theorem dw_bound {x : Int} (hx : 0 ≤ x) (hx2 : x ≤ 1000000000) (k : Nat) : 0 ≤ (Um.dwR x k).1 ∧ (Um.dwR x k).1 ≤ 1000000000 := by
  rcases Um.dw_right hx hx2 k with ⟨_, h⟩ | h
  · exact h
  · rw [h]; decide
theorem up_bound {x : Int} (hx : 0 ≤ x) (hx2 : x ≤ 1000000000) (k : Nat) : 0 ≤ (Um.upR x k).1 ∧ (Um.upR x k).1 ≤ 1000000000 := by
  rcases Um.up_right hx hx2 k with ⟨_, h⟩ | h
  · exact h
  · rw [h]; decide

theorem far_lo {lo hi : Int} (h : lo ≤ hi) : (Um.farR lo hi).1 = max 0 (max lo (-hi)) := by
  unfold Um.farR Um.ab
  simp only []
  repeat' split
  all_goals omega
theorem far_hi {lo hi : Int} (h : lo ≤ hi) : (Um.farR lo hi).2 = max (-lo) hi := by
  unfold Um.farR Um.ab
  simp only []
  repeat' split
  all_goals omega
theorem mid_is {lo hi : Int} (h : lo ≤ hi) : lo + (hi - lo).tdiv 2 = Um.midR lo hi := by
  unfold Um.midR
  rw [Um.fl_pos (by decide), Int.tdiv_eq_ediv_of_nonneg (by omega)]
  omega
/-- What Far answers to any span. -/
def farAll (lo hi : Int) : Int × Int × Int := if Um.chk lo hi = 0 then ((Um.farR lo hi).1, (Um.farR lo hi).2, 0) else (0, 0, Um.chk lo hi)
def midAll (lo hi : Int) : Int × Int := if Um.chk lo hi = 0 then (Um.midR lo hi, 0) else (0, Um.chk lo hi)
set_option maxHeartbeats 1000000 in
theorem midAll_any (lo hi : Int) (w : World) :
    Calls Tryd.prog 35 #[.agg #[.int .i64 lo, .int .i64 hi]] w fun e w' => e = .returned (.tuple #[.int .i64 (midAll lo hi).1, errV (midAll lo hi).2]) ∧ Below w.heap.size w w' := by
  have q1 := errG
  have q2 := errGn
  have q3 := errE
  have q4 := errN
  by_cases hc : Um.chk lo hi = 0
  · have HR : Hid (midAll lo hi = (Um.midR lo hi, 0)) := by unfold midAll; rw [if_pos hc]; rfl
    have k1 : (Um.chk lo hi != 0) = false := by simpa using hc
    obtain ⟨m1, m2, m3⟩ := Um.chk_ok.1 hc
    have HM := hid (mid_is m3)
    have hm := Um.mid_has m3
    obtain ⟨a1, a2⟩ := (Um.may_iff lo).1 m1
    obtain ⟨a3, a4⟩ := (Um.may_iff hi).1 m2
    have ht := Um.tdiv_le (hi - lo) 2 2000000000 (by omega) (by omega)
    generalize Um.midR lo hi = r at *
    generalize midAll lo hi = R at *
    clear hc m1 m2
    go_enter Tryd.func35, Tryd.ntmps35
    go_wp2_with (first | (go_at_call 21; refine (check_any _ _ _).mono ?_; rintro e w1 ⟨rfl, rfl⟩))
    go_returns
    rw [HR.out]
    exact ⟨by rw [← HM.out]; rfl, by go_grown⟩
  · have HR : Hid (midAll lo hi = (0, Um.chk lo hi)) := by unfold midAll; rw [if_neg hc]; rfl
    have k1 : (Um.chk lo hi != 0) = true := by simpa using hc
    generalize midAll lo hi = R at *
    clear hc
    go_enter Tryd.func35, Tryd.ntmps35
    go_wp2_with (first | (go_at_call 21; refine (check_any _ _ _).mono ?_; rintro e w1 ⟨rfl, rfl⟩))
    go_returns
    rw [HR.out]
    exact ⟨rfl, by go_grown⟩
end Go.Proofs.YtlnjdhjjgenkpaaDoor
