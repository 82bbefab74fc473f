/-
  What package power answers: downward, upward, lowEnd, highEnd, far, Far, Middle, at every argument.
-/
import Derived.Test.YtkfalmdckmlneaaGreatDoorUnits
import Derived.Test.YtkfalmdckmlneaaGreatDoorSpans
import Derived.Test.YtkfalmdckmlneaaGreatDoorMaths
import Derived.LoopTactic
namespace Go.Proofs.YtkfalmdckmlneaaGreatDoor
set_option linter.unusedSimpArgs false
open Go.RowKit

theorem ret_ie {a b k l : Int} (h1 : a = b) (h2 : k = l) : Ending.returned (.tuple #[.int .i64 a, errV k]) = .returned (.tuple #[.int .i64 b, errV l]) := by rw [h1, h2]

set_option maxHeartbeats 1000000 in
theorem dw_drew (x : Int) (n : Nat) (w : World) (hn : n ≤ 4) :
    Calls Tryz.prog 140 #[.int .i64 x, .int .i64 n] w fun e w' => e = .returned (.tuple #[.int .i64 (Um.dwR x n).1, errV (Um.dwR x n).2]) ∧ ∃ q, w' = w.drewN q := by
  have q1 := errG
  have q2 := errGn
  have q3 := errE
  have q4 := errN
  go_enter Tryz.func140, Tryz.ntmps140
  go_wp2
  go_loopw [6, 11] (fun p i wr => ∃ k : Nat, k ≤ n ∧ i = .int .i64 k ∧ p = .int .i64 (Um.dwR x k).1 ∧ Hid ((Um.dwR x k).2 = 0) ∧ ∃ q, wr = w.drewN q) (fun _ i _ => n - (intOf i).toNat)
  case atStart => exact ⟨0, by omega, rfl, rfl, rfl, 0, rfl⟩
  case round =>
    obtain ⟨k, hk, rfl, rfl, h0, q, rfl⟩ := hrel
    have HS := fun (hk : k < n) h2 => hid (Um.dw_stop hk h0.out h2)
    have HG := fun h2 => hid (Um.dw_go h0.out h2)
    generalize hp : (Um.dwR x k).1 = p at *
    have HP := hid hp
    clear hp
    go_wp2_with (go_at_call 87; refine (times_drew _ _ _).mono ?_; rintro e w1 ⟨rfl, q1, rfl⟩)
    · rename_i h
      have hne : ¬ (Um.timesR p x).2.2 = 0 := by simpa using h
      go_returns
      rw [(HS (by omega) hne).out]
      exact ⟨rfl, _, rfl⟩
    · rename_i h
      have hne : (Um.timesR p x).2.2 = 0 := by simpa using h
      have e := (HG hne).out
      exact ⟨⟨k + 1, by omega, rfl, by rw [e], by rw [Hid, e], _, rfl⟩, by simp [intOf]; omega⟩
    · have : k = n := by omega
      subst this
      go_returns
      rw [HP.out, h0.out]
      exact ⟨rfl, _, rfl⟩

set_option maxHeartbeats 1000000 in
theorem up_drew (x : Int) (n : Nat) (w : World) (hn : n ≤ 4) :
    Calls Tryz.prog 139 #[.int .i64 x, .int .i64 n] w fun e w' => e = .returned (.tuple #[.int .i64 (Um.upR x n).1, errV (Um.upR x n).2]) ∧ ∃ q, w' = w.drewN q := by
  have q1 := errG
  have q2 := errGn
  have q3 := errE
  have q4 := errN
  go_enter Tryz.func139, Tryz.ntmps139
  go_wp2
  go_loopw [6, 11] (fun p i wr => ∃ k : Nat, k ≤ n ∧ i = .int .i64 k ∧ p = .int .i64 (Um.upR x k).1 ∧ Hid ((Um.upR x k).2 = 0) ∧ ∃ q, wr = w.drewN q) (fun _ i _ => n - (intOf i).toNat)
  case atStart => exact ⟨0, by omega, rfl, rfl, rfl, 0, rfl⟩
  case round =>
    obtain ⟨k, hk, rfl, rfl, h0, q, rfl⟩ := hrel
    have HS := fun (hk : k < n) h2 => hid (Um.up_stop hk h0.out h2)
    have HG := fun h2 => hid (Um.up_go h0.out h2)
    generalize hp : (Um.upR x k).1 = p at *
    have HP := hid hp
    clear hp
    go_wp2_with (go_at_call 87; refine (times_drew _ _ _).mono ?_; rintro e w1 ⟨rfl, q1, rfl⟩)
    · rename_i h
      have hne : ¬ (Um.timesR p x).2.2 = 0 := by simpa using h
      go_returns
      rw [(HS (by omega) hne).out]
      exact ⟨rfl, _, rfl⟩
    · rename_i h
      have hne : (Um.timesR p x).2.2 = 0 := by simpa using h
      have e := (HG hne).out
      exact ⟨⟨k + 1, by omega, rfl, by rw [e], by rw [Hid, e], _, rfl⟩, by simp [intOf]; omega⟩
    · have : k = n := by omega
      subst this
      go_returns
      rw [HP.out, h0.out]
      exact ⟨rfl, _, rfl⟩

theorem dw_bound {x : Int} (hx : 0 ≤ x) (hx2 : x ≤ 1000000000) (k : Nat) : 0 ≤ (Um.dwR x k).1 ∧ (Um.dwR x k).1 ≤ 1000000000 := by
  rcases Um.dw_right hx hx2 k with ⟨_, h⟩ | h
  · exact h
  · rw [h]; decide
theorem up_bound {x : Int} (hx : 0 ≤ x) (hx2 : x ≤ 1000000000) (k : Nat) : 0 ≤ (Um.upR x k).1 ∧ (Um.upR x k).1 ≤ 1000000000 := by
  rcases Um.up_right hx hx2 k with ⟨_, h⟩ | h
  · exact h
  · rw [h]; decide

set_option maxHeartbeats 1000000 in
theorem low_drew (x : Int) (n : Nat) (w : World) (hx : -1000000000 ≤ x) (hx2 : x ≤ 1000000000) (hn : n ≤ 4) :
    Calls Tryz.prog 117 #[.int .i64 x, .int .i64 n] w fun e w' => e = .returned (.tuple #[.int .i64 (Um.lowR x n).1, errV (Um.lowR x n).2]) ∧ ∃ q, w' = w.drewN q := by
  by_cases h : x < 0
  · have HR : Hid (Um.lowR x n = (-(Um.upR (-x) n).1, (Um.upR (-x) n).2)) := by unfold Um.lowR; rw [if_pos h]; rfl
    have hb := up_bound (x := -x) (by omega) (by omega) n
    have HN := fun w => hid (up_drew (-x) n w hn)
    generalize Um.upR (-x) n = t at *
    generalize Um.lowR x n = r at *
    have h' : decide (x < 0) = true := by simpa using h
    go_enter Tryz.func117, Tryz.ntmps117
    go_wp2_with (go_at_call 139; refine (HN _).out.mono ?_; rintro e w1 ⟨rfl, q1, rfl⟩)
    go_returns
    rw [HR.out]
    exact ⟨rfl, _, rfl⟩
  · have HR : Hid (Um.lowR x n = Um.dwR x n) := by unfold Um.lowR; rw [if_neg h]; rfl
    have HN := fun w => hid (dw_drew x n w hn)
    generalize Um.dwR x n = t at *
    generalize Um.lowR x n = r at *
    have h' : decide (x < 0) = false := by simpa using h
    go_enter Tryz.func117, Tryz.ntmps117
    go_wp2_with (go_at_call 140; refine (HN _).out.mono ?_; rintro e w1 ⟨rfl, q1, rfl⟩)
    go_returns
    rw [HR.out]
    exact ⟨rfl, _, rfl⟩

set_option maxHeartbeats 1000000 in
theorem high_drew (x : Int) (n : Nat) (w : World) (hx : -1000000000 ≤ x) (hx2 : x ≤ 1000000000) (hn : n ≤ 4) :
    Calls Tryz.prog 118 #[.int .i64 x, .int .i64 n] w fun e w' => e = .returned (.tuple #[.int .i64 (Um.highR x n).1, errV (Um.highR x n).2]) ∧ ∃ q, w' = w.drewN q := by
  by_cases h : x < 0
  · have HR : Hid (Um.highR x n = (-(Um.dwR (-x) n).1, (Um.dwR (-x) n).2)) := by unfold Um.highR; rw [if_pos h]; rfl
    have hb := dw_bound (x := -x) (by omega) (by omega) n
    have HN := fun w => hid (dw_drew (-x) n w hn)
    generalize Um.dwR (-x) n = t at *
    generalize Um.highR x n = r at *
    have h' : decide (x < 0) = true := by simpa using h
    go_enter Tryz.func118, Tryz.ntmps118
    go_wp2_with (go_at_call 140; refine (HN _).out.mono ?_; rintro e w1 ⟨rfl, q1, rfl⟩)
    go_returns
    rw [HR.out]
    exact ⟨rfl, _, rfl⟩
  · have HR : Hid (Um.highR x n = Um.upR x n) := by unfold Um.highR; rw [if_neg h]; rfl
    have HN := fun w => hid (up_drew x n w hn)
    generalize Um.upR x n = t at *
    generalize Um.highR x n = r at *
    have h' : decide (x < 0) = false := by simpa using h
    go_enter Tryz.func118, Tryz.ntmps118
    go_wp2_with (go_at_call 139; refine (HN _).out.mono ?_; rintro e w1 ⟨rfl, q1, rfl⟩)
    go_returns
    rw [HR.out]
    exact ⟨rfl, _, rfl⟩

theorem far_lo {lo hi : Int} (h : lo ≤ hi) : (Um.farR lo hi).1 = max 0 (max lo (-hi)) := by
  unfold Um.farR Um.ab
  simp only []
  repeat' split
  all_goals omega
theorem far_hi {lo hi : Int} (h : lo ≤ hi) : (Um.farR lo hi).2 = max (-lo) hi := by
  unfold Um.farR Um.ab
  simp only []
  repeat' split
  all_goals omega
set_option maxHeartbeats 1000000 in
theorem far_any (lo hi : Int) (w : World) (m1 : Um.may lo = true) (m2 : Um.may hi = true) (h : lo ≤ hi) :
    Calls Tryz.prog 116 #[.agg #[.int .i64 lo, .int .i64 hi]] w fun e w' => e = .returned (.tuple #[.int .i64 (Um.farR lo hi).1, .int .i64 (Um.farR lo hi).2]) ∧ ∃ q, w' = (w.drewN q).alloc (.cells #[.int .i64 lo, .int .i64 hi] 29) := by
  obtain ⟨a1, a2⟩ := (Um.may_iff lo).1 m1
  obtain ⟨a3, a4⟩ := (Um.may_iff hi).1 m2
  have H1 := hid (far_lo h)
  have H2 := hid (far_hi h)
  generalize Um.farR lo hi = r at *
  clear m1 m2
  go_enter Tryz.func116, Tryz.ntmps116
  go_wp2
  go_quiet (fail)
  go_wp2
  all_goals
    go_returns
    exact ⟨ret2i (by rw [H1.out]; try omega) (by rw [H2.out]; try omega), _, rfl⟩

theorem mid_is {lo hi : Int} (h : lo ≤ hi) : lo + (hi - lo).tdiv 2 = Um.midR lo hi := by
  unfold Um.midR
  rw [Um.fl_pos (by decide), Int.tdiv_eq_ediv_of_nonneg (by omega)]
  omega
/-- What Far answers to any span. -/
def farAll (lo hi : Int) : Int × Int × Int := if Um.chk lo hi = 0 then ((Um.farR lo hi).1, (Um.farR lo hi).2, 0) else (0, 0, Um.chk lo hi)
def midAll (lo hi : Int) : Int × Int := if Um.chk lo hi = 0 then (Um.midR lo hi, 0) else (0, Um.chk lo hi)
set_option maxHeartbeats 1000000 in
theorem midAll_any (lo hi : Int) (w : World) :
    Calls Tryz.prog 143 #[.agg #[.int .i64 lo, .int .i64 hi]] w fun e w' => e = .returned (.tuple #[.int .i64 (midAll lo hi).1, errV (midAll lo hi).2]) ∧ Below w.heap.size w w' := by
  have q1 := errG
  have q2 := errGn
  have q3 := errE
  have q4 := errN
  by_cases hc : Um.chk lo hi = 0
  · have HR : Hid (midAll lo hi = (Um.midR lo hi, 0)) := by unfold midAll; rw [if_pos hc]; rfl
    have k1 : (Um.chk lo hi != 0) = false := by simpa using hc
    obtain ⟨m1, m2, m3⟩ := Um.chk_ok.1 hc
    have HM := hid (mid_is m3)
    have hm := Um.mid_has m3
    obtain ⟨a1, a2⟩ := (Um.may_iff lo).1 m1
    obtain ⟨a3, a4⟩ := (Um.may_iff hi).1 m2
    have ht := Um.tdiv_le (hi - lo) 2 2000000000 (by omega) (by omega)
    generalize Um.midR lo hi = r at *
    generalize midAll lo hi = R at *
    clear hc m1 m2
    go_enter Tryz.func143, Tryz.ntmps143
    go_wp2_with (first | (go_at_call 112; refine (check_any _ _ _).mono ?_; rintro e w1 ⟨rfl, rfl⟩))
    go_returns
    rw [HR.out]
    exact ⟨by rw [← HM.out]; rfl, by go_grown⟩
  · have HR : Hid (midAll lo hi = (0, Um.chk lo hi)) := by unfold midAll; rw [if_neg hc]; rfl
    have k1 : (Um.chk lo hi != 0) = true := by simpa using hc
    generalize midAll lo hi = R at *
    clear hc
    go_enter Tryz.func143, Tryz.ntmps143
    go_wp2_with (first | (go_at_call 112; refine (check_any _ _ _).mono ?_; rintro e w1 ⟨rfl, rfl⟩))
    go_returns
    rw [HR.out]
    exact ⟨rfl, by go_grown⟩
end Go.Proofs.YtkfalmdckmlneaaGreatDoor
