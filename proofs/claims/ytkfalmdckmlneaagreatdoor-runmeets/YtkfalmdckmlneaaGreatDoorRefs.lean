/-
  What the document's answer (package spanref1) is, function by function: May, Floor, Ceil, Alone, Big, fits, Zero, Times, By.
  What the document's answer (package spanref1) to Times of two spans is: of all four products the least one rounded down and the greatest one rounded up, if both may be.
  What the document's answer (package spanref1) to By of two spans is: error 8 if 0 is in the second; else of all four quotients the least one rounded down and the greatest one rounded up, if both may be.
  What the document's answer (package spanref1) to one span is: Span; of two: Hull, Meet.
  What the document's answer (package spanref1) to spans is: Two, Add, Less; Times and By in the words of the arithmetic of spans.
  What the document's answer (package spanref1) to powers is: again, Far, Middle, Power at right spans.
-/
import Derived.Test.YtkfalmdckmlneaaGreatDoorBase
import Derived.Test.YtkfalmdckmlneaaGreatDoorMaths
import Derived.LoopTactic
namespace Go.Proofs.YtkfalmdckmlneaaGreatDoor
set_option linter.unusedSimpArgs false
open Go.RowKit

theorem rMay_any (n : Int) (w : World) :
    Calls Tryz.prog 46 #[.int .i64 n] w fun e w' => e = .returned (.bool (Um.may n)) ∧ w' = w := by
  by_cases h : -1000000000 ≤ n
  · by_cases h' : n ≤ 1000000000
    · have hm : Hid (Um.may n = true) := (Um.may_iff n).2 ⟨h, h'⟩
      go_enter Tryz.func46, Tryz.ntmps46
      go_wp2
      go_ret
      exact ⟨by rw [hm.out]; simp, rfl⟩
    · have hm : Hid (Um.may n = false) := (Um.may_not n).2 (by omega)
      go_enter Tryz.func46, Tryz.ntmps46
      go_wp2
      go_ret
      exact ⟨by rw [hm.out]; simp, rfl⟩
  · have hm : Hid (Um.may n = false) := (Um.may_not n).2 (by omega)
    have hd : decide (-1000000000 ≤ n) = false := by simpa using h
    go_enter Tryz.func46, Tryz.ntmps46
    go_wp2
    go_ret
    exact ⟨by rw [hm.out]; simp, rfl⟩

theorem fl_tdiv {n d : Int} (hd : 0 < d) : Um.fl n d = if n.tmod d < 0 then n.tdiv d - 1 else n.tdiv d := by
  rw [Um.fl_pos hd]
  split
  · exact (Um.pos_down hd ‹_›).1
  · rcases (by omega : n.tmod d = 0 ∨ 0 < n.tmod d) with h | h
    · exact (Um.pos_zero hd h).1
    · exact (Um.pos_up hd h).1
theorem ce_tdiv {n d : Int} (hd : 0 < d) : Um.ce n d = if 0 < n.tmod d then n.tdiv d + 1 else n.tdiv d := by
  rw [Um.ce_pos hd]
  split
  · have := (Um.pos_up hd ‹_›).2; omega
  · rcases (by omega : n.tmod d = 0 ∨ n.tmod d < 0) with h | h
    · have := (Um.pos_zero hd h).2; omega
    · have := (Um.pos_down hd h).2; omega

theorem rFloor_any (n d : Int) (w : World) (hd : 0 < d) (h1 : -4000000000000000000 ≤ n) (h2 : n ≤ 4000000000000000000) :
    Calls Tryz.prog 41 #[.int .i64 n, .int .i64 d] w fun e w' => e = .returned (.int .i64 (Um.fl n d)) ∧ w' = w := by
  have hb := Um.tdiv_le n d 4000000000000000000 h1 h2
  have hz : ¬ d = 0 := by omega
  have HF := hid (fl_tdiv (n := n) hd)
  by_cases hr : n.tmod d < 0
  · have hr' : decide (n.tmod d < 0) = true := by simpa using hr
    rw [if_pos hr] at HF
    go_enter Tryz.func41, Tryz.ntmps41
    go_wp2
    go_ret
    exact ⟨by rw [HF.out]; rfl, rfl⟩
  · have hr' : decide (n.tmod d < 0) = false := by simpa using hr
    rw [if_neg hr] at HF
    go_enter Tryz.func41, Tryz.ntmps41
    go_wp2
    go_ret
    exact ⟨by rw [HF.out]; rfl, rfl⟩
theorem rCeil_any (n d : Int) (w : World) (hd : 0 < d) (h1 : -4000000000000000000 ≤ n) (h2 : n ≤ 4000000000000000000) :
    Calls Tryz.prog 42 #[.int .i64 n, .int .i64 d] w fun e w' => e = .returned (.int .i64 (Um.ce n d)) ∧ w' = w := by
  have hb := Um.tdiv_le n d 4000000000000000000 h1 h2
  have hz : ¬ d = 0 := by omega
  have HF := hid (ce_tdiv (n := n) hd)
  by_cases hr : 0 < n.tmod d
  · have hr' : decide (0 < n.tmod d) = true := by simpa using hr
    rw [if_pos hr] at HF
    go_enter Tryz.func42, Tryz.ntmps42
    go_wp2
    go_ret
    exact ⟨by rw [HF.out]; rfl, rfl⟩
  · have hr' : decide (0 < n.tmod d) = false := by simpa using hr
    rw [if_neg hr] at HF
    go_enter Tryz.func42, Tryz.ntmps42
    go_wp2
    go_ret
    exact ⟨by rw [HF.out]; rfl, rfl⟩

theorem rAlone_any (n : Int) (w : World) :
    Calls Tryz.prog 51 #[.int .i64 n] w fun e w' => e = .returned (.agg #[.int .i64 n, .int .i64 n]) ∧ Below w.heap.size w w' := by
  go_enter Tryz.func51, Tryz.ntmps51
  go_wp2
  go_returns
  exact ⟨rfl, by go_grown⟩

theorem rBig_any (lo hi : Int) (w : World) :
    Calls Tryz.prog 74 #[.agg #[.int .i64 lo, .int .i64 hi]] w fun e w' => e = .returned (.bool (!Um.may lo || !Um.may hi)) ∧ w' = w.alloc (.cells #[.int .i64 lo, .int .i64 hi] 29) := by
  cases ha : Um.may lo
  · go_enter Tryz.func74, Tryz.ntmps74
    go_wp2_with (go_at_call 46; refine (rMay_any _ _).mono ?_; rintro e w' ⟨rfl, rfl⟩)
    go_returns
    exact ⟨rfl, rfl⟩
  · go_enter Tryz.func74, Tryz.ntmps74
    go_wp2_with (go_at_call 46; refine (rMay_any _ _).mono ?_; rintro e w' ⟨rfl, rfl⟩)
    go_returns
    exact ⟨rfl, rfl⟩

/-- A span that fits, or none and error 4. -/
def fitR (lo hi : Int) : Int × Int × Int := if Um.may lo = true ∧ Um.may hi = true then (lo, hi, 0) else (0, 0, 4)
theorem fitR_yes {lo hi : Int} (h1 : Um.may lo = true) (h2 : Um.may hi = true) : fitR lo hi = (lo, hi, 0) := by simp [fitR, h1, h2]
theorem fitR_no {lo hi : Int} (h : (!Um.may lo || !Um.may hi) = true) : fitR lo hi = (0, 0, 4) := by
  unfold fitR
  rw [if_neg]
  intro hh
  rw [hh.1, hh.2] at h
  cases h

theorem ret_s3 {a b c a' b' c' : Int} (h1 : a = a') (h2 : b = b') (h3 : c = c') : Ending.returned (.tuple #[.agg #[.int .i64 a, .int .i64 b], .int .i64 c]) = .returned (.tuple #[.agg #[.int .i64 a', .int .i64 b'], .int .i64 c']) := by rw [h1, h2, h3]

theorem rFits_any (lo hi : Int) (w : World) :
    Calls Tryz.prog 40 #[.agg #[.int .i64 lo, .int .i64 hi]] w fun e w' => e = .returned (.tuple #[.agg #[.int .i64 (fitR lo hi).1, .int .i64 (fitR lo hi).2.1], .int .i64 (fitR lo hi).2.2]) ∧ w' = ((w.alloc (.cells #[.int .i64 lo, .int .i64 hi] 29)).alloc (.cells #[.int .i64 (fitR lo hi).1, .int .i64 (fitR lo hi).2.1] 29)).alloc (.cells #[.int .i64 lo, .int .i64 hi] 29) := by
  cases hb : (!Um.may lo || !Um.may hi)
  · have h1 : Um.may lo = true := by cases h : Um.may lo <;> simp [h] at hb ⊢
    have h2 : Um.may hi = true := by cases h : Um.may hi <;> simp [h] at hb ⊢
    have HR := hid (fitR_yes h1 h2)
    clear h1 h2
    go_enter Tryz.func40, Tryz.ntmps40
    go_wp2_with (go_at_call 74; refine (rBig_any _ _ _).mono ?_; rintro e w1 ⟨rfl, rfl⟩)
    go_returns
    rw [HR.out]
    exact ⟨rfl, rfl⟩
  · have HR := hid (fitR_no hb)
    go_enter Tryz.func40, Tryz.ntmps40
    go_wp2_with (go_at_call 74; refine (rBig_any _ _ _).mono ?_; rintro e w1 ⟨rfl, rfl⟩)
    go_returns
    rw [HR.out]
    exact ⟨rfl, rfl⟩

theorem rZero_any (lo hi : Int) (w : World) :
    Calls Tryz.prog 43 #[.agg #[.int .i64 lo, .int .i64 hi]] w fun e w' => e = .returned (.bool (decide (lo ≤ 0) && decide (0 ≤ hi))) ∧ w' = w.alloc (.cells #[.int .i64 lo, .int .i64 hi] 29) := by
  by_cases h : lo ≤ 0
  · have h' : decide (lo ≤ 0) = true := by simpa using h
    go_enter Tryz.func43, Tryz.ntmps43
    go_wp2
    go_returns
    exact ⟨by rw [h']; rfl, rfl⟩
  · have h' : decide (lo ≤ 0) = false := by simpa using h
    go_enter Tryz.func43, Tryz.ntmps43
    go_wp2
    go_returns
    exact ⟨rfl, rfl⟩

/-- The least, and the greatest, of four. -/
def min4 (a b c d : Int) : Int := min (min (min a b) c) d
def max4 (a b c d : Int) : Int := max (max (max a b) c) d

end Go.Proofs.YtkfalmdckmlneaaGreatDoor
namespace Go.Proofs.YtkfalmdckmlneaaGreatDoor
set_option linter.unusedSimpArgs false
open Go.RowKit

def mnK (p0 p1 p2 p3 : Int) : Nat → Int
  | 0 => p0
  | 1 => p0
  | 2 => min p0 p1
  | 3 => min (min p0 p1) p2
  | _ => min4 p0 p1 p2 p3
def mxK (p0 p1 p2 p3 : Int) : Nat → Int
  | 0 => p0
  | 1 => p0
  | 2 => max p0 p1
  | 3 => max (max p0 p1) p2
  | _ => max4 p0 p1 p2 p3
theorem vint {a b : Int} (h : a = b) : Value.int .i64 a = Value.int .i64 b := by rw [h]

/-- Times of two spans. -/
def spanTimesR (al ah bl bh : Int) : Int × Int × Int :=
  fitR (Um.fl (min4 (al * bl) (al * bh) (ah * bl) (ah * bh)) 1000) (Um.ce (max4 (al * bl) (al * bh) (ah * bl) (ah * bh)) 1000)

set_option maxRecDepth 100000 in
set_option maxHeartbeats 2000000 in
theorem rTimes_any (al ah bl bh : Int) (w : World) (h1 : Um.may al = true) (h2 : Um.may ah = true) (h3 : Um.may bl = true) (h4 : Um.may bh = true) :
    Calls Tryz.prog 19 #[.agg #[.int .i64 al, .int .i64 ah], .agg #[.int .i64 bl, .int .i64 bh]] w fun e w' => e = .returned (.tuple #[.agg #[.int .i64 (spanTimesR al ah bl bh).1, .int .i64 (spanTimesR al ah bl bh).2.1], .int .i64 (spanTimesR al ah bl bh).2.2]) ∧ Below w.heap.size w w' := by
  have m0 := Um.mul_bound h1 h3
  have m1 := Um.mul_bound h1 h4
  have m2 := Um.mul_bound h2 h3
  have m3 := Um.mul_bound h2 h4
  have HR : Hid (spanTimesR al ah bl bh = fitR (Um.fl (min4 (al * bl) (al * bh) (ah * bl) (ah * bh)) 1000) (Um.ce (max4 (al * bl) (al * bh) (ah * bl) (ah * bh)) 1000)) := rfl
  generalize spanTimesR al ah bl bh = R at *
  clear h1 h2 h3 h4
  generalize q0 : al * bl = p0 at *
  generalize q1 : al * bh = p1 at *
  generalize q2 : ah * bl = p2 at *
  generalize q3 : ah * bh = p3 at *
  obtain ⟨a0, b0⟩ := m0
  obtain ⟨a1, b1⟩ := m1
  obtain ⟨a2, b2⟩ := m2
  obtain ⟨a3, b3⟩ := m3
  go_enter Tryz.func19, Tryz.ntmps19
  go_wp2
  clear q0 q1 q2 q3
  go_loop [7, 8, 9] (fun lo hi i => ∃ k : Nat, 1 ≤ k ∧ k ≤ 4 ∧ i = .int .i64 k ∧ lo = .int .i64 (mnK p0 p1 p2 p3 k) ∧ hi = .int .i64 (mxK p0 p1 p2 p3 k)) (fun _ _ i => 4 - (intOf i).toNat)
  case atStart => exact ⟨1, by omega, by omega, rfl, rfl, rfl⟩
  case round =>
    obtain ⟨k, hk1, hk4, rfl, rfl, rfl⟩ := hrel
    rcases (by omega : k = 1 ∨ k = 2 ∨ k = 3 ∨ k = 4) with rfl | rfl | rfl | rfl
    · simp only [mnK, mxK]
      go_wp2
      all_goals
        go_round
        case rel => exact ⟨2, by omega, by omega, rfl, vint (by simp only [mnK]; omega), vint (by simp only [mxK]; omega)⟩
        case measure => simp [intOf]
    · simp only [mnK, mxK]
      generalize hm : min p0 p1 = mn at *
      generalize hM : max p0 p1 = mx at *
      have Hm := hid hm
      have HM := hid hM
      clear hm hM
      go_wp2
      all_goals
        go_round
        case rel => exact ⟨3, by omega, by omega, rfl, vint (by simp only [mnK]; (try rw [Hm.out]); omega), vint (by simp only [mxK]; (try rw [HM.out]); omega)⟩
        case measure => simp [intOf]
    · simp only [mnK, mxK]
      generalize hm : min (min p0 p1) p2 = mn at *
      generalize hM : max (max p0 p1) p2 = mx at *
      have Hm := hid hm
      have HM := hid hM
      clear hm hM
      go_wp2
      all_goals
        go_round
        case rel => exact ⟨4, by omega, by omega, rfl, vint (by simp only [mnK, min4]; (try rw [Hm.out]); omega), vint (by simp only [mxK, max4]; (try rw [HM.out]); omega)⟩
        case measure => simp [intOf]
    · have l1 : -1000000000000000000 ≤ min4 p0 p1 p2 p3 := by unfold min4; omega
      have l2 : min4 p0 p1 p2 p3 ≤ 1000000000000000000 := by unfold min4; omega
      have l3 : -1000000000000000000 ≤ max4 p0 p1 p2 p3 := by unfold max4; omega
      have l4 : max4 p0 p1 p2 p3 ≤ 1000000000000000000 := by unfold max4; omega
      simp only [mnK, mxK]
      generalize min4 p0 p1 p2 p3 = mn at *
      generalize max4 p0 p1 p2 p3 = mx at *
      go_wp2_with (first | (go_at_call 41; refine (rFloor_any _ _ _ (by decide) (by omega) (by omega)).mono ?_; rintro e w' ⟨rfl, rfl⟩) | (go_at_call 42; refine (rCeil_any _ _ _ (by decide) (by omega) (by omega)).mono ?_; rintro e w' ⟨rfl, rfl⟩) | (go_at_call 40; refine (rFits_any _ _ _).mono ?_; rintro e w' ⟨rfl, rfl⟩))
      go_returns
      rw [HR.out]
      exact ⟨rfl, by go_grown⟩
end Go.Proofs.YtkfalmdckmlneaaGreatDoor
namespace Go.Proofs.YtkfalmdckmlneaaGreatDoor
set_option linter.unusedSimpArgs false
open Go.RowKit

def lK (f0 f1 f2 f3 : Int) : Nat → Int
  | 0 => 0
  | 1 => f0
  | 2 => min f0 f1
  | 3 => min (min f0 f1) f2
  | _ => min4 f0 f1 f2 f3
def hK (f0 f1 f2 f3 : Int) : Nat → Int
  | 0 => 0
  | 1 => f0
  | 2 => max f0 f1
  | 3 => max (max f0 f1) f2
  | _ => max4 f0 f1 f2 f3

/-- By of two spans: 0 is not in the second. -/
def spanByR (al ah bl bh : Int) : Int × Int × Int :=
  fitR (min4 (Um.fl (al * 1000) bl) (Um.fl (al * 1000) bh) (Um.fl (ah * 1000) bl) (Um.fl (ah * 1000) bh)) (max4 (Um.ce (al * 1000) bl) (Um.ce (al * 1000) bh) (Um.ce (ah * 1000) bl) (Um.ce (ah * 1000) bh))

theorem rBy_zero (al ah bl bh : Int) (w : World) (hz : bl ≤ 0) (hz2 : 0 ≤ bh) :
    Calls Tryz.prog 20 #[.agg #[.int .i64 al, .int .i64 ah], .agg #[.int .i64 bl, .int .i64 bh]] w fun e w' => e = .returned (.tuple #[.agg #[.int .i64 0, .int .i64 0], .int .i64 8]) ∧ Below w.heap.size w w' := by
  have g : (decide (bl ≤ 0) && decide (0 ≤ bh)) = true := by simp [hz, hz2]
  clear hz hz2
  go_enter Tryz.func20, Tryz.ntmps20
  go_wp2_with (go_at_call 43; refine (rZero_any _ _ _).mono ?_; rintro e w' ⟨rfl, rfl⟩)
  go_returns
  exact ⟨rfl, by go_grown⟩

theorem wspan {W : World} {a b c d : Int} {T : TypeId} (h1 : a = c) (h2 : b = d) : W.alloc (.cells #[.int .i64 a, .int .i64 b] T) = W.alloc (.cells #[.int .i64 c, .int .i64 d] T) := by rw [h1, h2]

set_option maxRecDepth 100000 in
set_option maxHeartbeats 4000000 in
theorem rBy_pos (al ah bl bh : Int) (w : World) (h1 : Um.may al = true) (h2 : Um.may ah = true) (h3 : 0 < bl) (h4 : 0 < bh) :
    Calls Tryz.prog 20 #[.agg #[.int .i64 al, .int .i64 ah], .agg #[.int .i64 bl, .int .i64 bh]] w fun e w' => e = .returned (.tuple #[.agg #[.int .i64 (spanByR al ah bl bh).1, .int .i64 (spanByR al ah bl bh).2.1], .int .i64 (spanByR al ah bl bh).2.2]) ∧ Below w.heap.size w w' := by
  obtain ⟨a1, a2⟩ := (Um.may_iff al).1 h1
  obtain ⟨a3, a4⟩ := (Um.may_iff ah).1 h2
  have g : (decide (bl ≤ 0) && decide (0 ≤ bh)) = false := by
    have : ¬ bl ≤ 0 := by omega
    simp [this]
  have HR : Hid (spanByR al ah bl bh = fitR (min4 (Um.fl (al * 1000) bl) (Um.fl (al * 1000) bh) (Um.fl (ah * 1000) bl) (Um.fl (ah * 1000) bh)) (max4 (Um.ce (al * 1000) bl) (Um.ce (al * 1000) bh) (Um.ce (ah * 1000) bl) (Um.ce (ah * 1000) bh))) := rfl
  generalize spanByR al ah bl bh = R at *
  clear h1 h2
  have F0 := fun w => hid (rFloor_any (1000 * al) bl w h3 (by omega) (by omega))
  have F1 := fun w => hid (rFloor_any (1000 * al) bh w h4 (by omega) (by omega))
  have F2 := fun w => hid (rFloor_any (1000 * ah) bl w h3 (by omega) (by omega))
  have F3 := fun w => hid (rFloor_any (1000 * ah) bh w h4 (by omega) (by omega))
  have C0 := fun w => hid (rCeil_any (1000 * al) bl w h3 (by omega) (by omega))
  have C1 := fun w => hid (rCeil_any (1000 * al) bh w h4 (by omega) (by omega))
  have C2 := fun w => hid (rCeil_any (1000 * ah) bl w h3 (by omega) (by omega))
  have C3 := fun w => hid (rCeil_any (1000 * ah) bh w h4 (by omega) (by omega))
  rw [Int.mul_comm al 1000, Int.mul_comm ah 1000] at HR
  generalize Um.fl (1000 * al) bl = f0 at *
  generalize Um.fl (1000 * al) bh = f1 at *
  generalize Um.fl (1000 * ah) bl = f2 at *
  generalize Um.fl (1000 * ah) bh = f3 at *
  generalize Um.ce (1000 * al) bl = c0 at *
  generalize Um.ce (1000 * al) bh = c1 at *
  generalize Um.ce (1000 * ah) bl = c2 at *
  generalize Um.ce (1000 * ah) bh = c3 at *
  go_enter Tryz.func20, Tryz.ntmps20
  go_wp2_with (go_at_call 43; refine (rZero_any _ _ _).mono ?_; rintro e w' ⟨rfl, rfl⟩)
  clear g
  go_loopw [10] (fun i wr => ∃ k : Nat, k ≤ 4 ∧ i = .int .i64 k ∧ wr = ((((((w.alloc (.cells #[.int .i64 al, .int .i64 ah] 29)).alloc (.cells #[.int .i64 bl, .int .i64 bh] 29)).alloc (.cells #[.int .i64 0, .int .i64 0] 29)).alloc (.cells #[.int .i64 bl, .int .i64 bh] 29)).alloc (.cells #[.int .i64 al, .int .i64 al, .int .i64 ah, .int .i64 ah] 3)).alloc (.cells #[.int .i64 bl, .int .i64 bh, .int .i64 bl, .int .i64 bh] 3)).alloc (.cells #[.int .i64 (lK f0 f1 f2 f3 k), .int .i64 (hK c0 c1 c2 c3 k)] 29)) (fun i _ => 4 - (intOf i).toNat)
  case atStart => exact ⟨0, by omega, rfl, rfl⟩
  case round =>
    obtain ⟨k, hk4, rfl, rfl⟩ := hrel
    rcases (by omega : k = 0 ∨ k = 1 ∨ k = 2 ∨ k = 3 ∨ k = 4) with rfl | rfl | rfl | rfl | rfl
    · simp only [lK, hK]
      go_wp2_with (first | (go_at_call 41; refine (F0 _).out.mono ?_; rintro e w' ⟨rfl, rfl⟩) | (go_at_call 42; refine (C0 _).out.mono ?_; rintro e w' ⟨rfl, rfl⟩))
      exact ⟨⟨1, by omega, rfl, rfl⟩, by simp [intOf]⟩
    · simp only [lK, hK]
      go_wp2_with (first | (go_at_call 41; refine (F1 _).out.mono ?_; rintro e w' ⟨rfl, rfl⟩) | (go_at_call 42; refine (C1 _).out.mono ?_; rintro e w' ⟨rfl, rfl⟩))
      all_goals exact ⟨⟨2, by omega, rfl, wspan (by simp only [lK, min4]; omega) (by simp only [hK, max4]; omega)⟩, by simp [intOf]⟩
    · simp only [lK, hK]
      generalize hm : min f0 f1 = mn at *
      generalize hM : max c0 c1 = mx at *
      have Hm := hid hm
      have HM := hid hM
      clear hm hM
      go_wp2_with (first | (go_at_call 41; refine (F2 _).out.mono ?_; rintro e w' ⟨rfl, rfl⟩) | (go_at_call 42; refine (C2 _).out.mono ?_; rintro e w' ⟨rfl, rfl⟩))
      all_goals exact ⟨⟨3, by omega, rfl, wspan (by simp only [lK, min4]; (try rw [Hm.out]); omega) (by simp only [hK, max4]; (try rw [HM.out]); omega)⟩, by simp [intOf]⟩
    · simp only [lK, hK]
      generalize hm : min (min f0 f1) f2 = mn at *
      generalize hM : max (max c0 c1) c2 = mx at *
      have Hm := hid hm
      have HM := hid hM
      clear hm hM
      go_wp2_with (first | (go_at_call 41; refine (F3 _).out.mono ?_; rintro e w' ⟨rfl, rfl⟩) | (go_at_call 42; refine (C3 _).out.mono ?_; rintro e w' ⟨rfl, rfl⟩))
      all_goals exact ⟨⟨4, by omega, rfl, wspan (by simp only [lK, min4]; (try rw [Hm.out]); omega) (by simp only [hK, max4]; (try rw [HM.out]); omega)⟩, by simp [intOf]⟩
    · simp only [lK, hK]
      generalize min4 f0 f1 f2 f3 = mn at *
      generalize max4 c0 c1 c2 c3 = mx at *
      go_wp2_with (go_at_call 40; refine (rFits_any _ _ _).mono ?_; rintro e w' ⟨rfl, rfl⟩)
      go_returns
      rw [HR.out]
      exact ⟨rfl, by go_grown⟩
theorem fl_flip (n : Int) {d : Int} (h : d < 0) : Um.fl n d = Um.fl (-n) (-d) := by rw [Um.fl_neg h, Um.fl_pos (by omega)]
theorem ce_flip (n : Int) {d : Int} (h : d < 0) : Um.ce n d = Um.ce (-n) (-d) := by rw [Um.ce_neg h, Um.ce_pos (by omega), Int.neg_neg]

set_option maxRecDepth 100000 in
set_option maxHeartbeats 4000000 in
theorem rBy_neg (al ah bl bh : Int) (w : World) (h1 : Um.may al = true) (h2 : Um.may ah = true) (h3 : bl < 0) (h4 : bh < 0) (h5 : -1000000000 ≤ bl) (h6 : -1000000000 ≤ bh) :
    Calls Tryz.prog 20 #[.agg #[.int .i64 al, .int .i64 ah], .agg #[.int .i64 bl, .int .i64 bh]] w fun e w' => e = .returned (.tuple #[.agg #[.int .i64 (spanByR al ah bl bh).1, .int .i64 (spanByR al ah bl bh).2.1], .int .i64 (spanByR al ah bl bh).2.2]) ∧ Below w.heap.size w w' := by
  obtain ⟨a1, a2⟩ := (Um.may_iff al).1 h1
  obtain ⟨a3, a4⟩ := (Um.may_iff ah).1 h2
  have g : (decide (bl ≤ 0) && decide (0 ≤ bh)) = false := by
    have : ¬ 0 ≤ bh := by omega
    simp [this]
  have HR : Hid (spanByR al ah bl bh = fitR (min4 (Um.fl (al * 1000) bl) (Um.fl (al * 1000) bh) (Um.fl (ah * 1000) bl) (Um.fl (ah * 1000) bh)) (max4 (Um.ce (al * 1000) bl) (Um.ce (al * 1000) bh) (Um.ce (ah * 1000) bl) (Um.ce (ah * 1000) bh))) := rfl
  generalize spanByR al ah bl bh = R at *
  clear h1 h2
  have F0 := fun w => hid (rFloor_any (-(1000 * al)) (-bl) w (by omega) (by omega) (by omega))
  have F1 := fun w => hid (rFloor_any (-(1000 * al)) (-bh) w (by omega) (by omega) (by omega))
  have F2 := fun w => hid (rFloor_any (-(1000 * ah)) (-bl) w (by omega) (by omega) (by omega))
  have F3 := fun w => hid (rFloor_any (-(1000 * ah)) (-bh) w (by omega) (by omega) (by omega))
  have C0 := fun w => hid (rCeil_any (-(1000 * al)) (-bl) w (by omega) (by omega) (by omega))
  have C1 := fun w => hid (rCeil_any (-(1000 * al)) (-bh) w (by omega) (by omega) (by omega))
  have C2 := fun w => hid (rCeil_any (-(1000 * ah)) (-bl) w (by omega) (by omega) (by omega))
  have C3 := fun w => hid (rCeil_any (-(1000 * ah)) (-bh) w (by omega) (by omega) (by omega))
  rw [Int.mul_comm al 1000, Int.mul_comm ah 1000, fl_flip _ h3, fl_flip _ h4, fl_flip _ h3, fl_flip _ h4, ce_flip _ h3, ce_flip _ h4, ce_flip _ h3, ce_flip _ h4] at HR
  generalize Um.fl (-(1000 * al)) (-bl) = f0 at *
  generalize Um.fl (-(1000 * al)) (-bh) = f1 at *
  generalize Um.fl (-(1000 * ah)) (-bl) = f2 at *
  generalize Um.fl (-(1000 * ah)) (-bh) = f3 at *
  generalize Um.ce (-(1000 * al)) (-bl) = c0 at *
  generalize Um.ce (-(1000 * al)) (-bh) = c1 at *
  generalize Um.ce (-(1000 * ah)) (-bl) = c2 at *
  generalize Um.ce (-(1000 * ah)) (-bh) = c3 at *
  go_enter Tryz.func20, Tryz.ntmps20
  go_wp2_with (go_at_call 43; refine (rZero_any _ _ _).mono ?_; rintro e w' ⟨rfl, rfl⟩)
  clear g
  go_loopw [10] (fun i wr => ∃ k : Nat, k ≤ 4 ∧ i = .int .i64 k ∧ wr = ((((((w.alloc (.cells #[.int .i64 al, .int .i64 ah] 29)).alloc (.cells #[.int .i64 bl, .int .i64 bh] 29)).alloc (.cells #[.int .i64 0, .int .i64 0] 29)).alloc (.cells #[.int .i64 bl, .int .i64 bh] 29)).alloc (.cells #[.int .i64 al, .int .i64 al, .int .i64 ah, .int .i64 ah] 3)).alloc (.cells #[.int .i64 bl, .int .i64 bh, .int .i64 bl, .int .i64 bh] 3)).alloc (.cells #[.int .i64 (lK f0 f1 f2 f3 k), .int .i64 (hK c0 c1 c2 c3 k)] 29)) (fun i _ => 4 - (intOf i).toNat)
  case atStart => exact ⟨0, by omega, rfl, rfl⟩
  case round =>
    obtain ⟨k, hk4, rfl, rfl⟩ := hrel
    rcases (by omega : k = 0 ∨ k = 1 ∨ k = 2 ∨ k = 3 ∨ k = 4) with rfl | rfl | rfl | rfl | rfl
    · simp only [lK, hK]
      go_wp2_with (first | (go_at_call 41; refine (F0 _).out.mono ?_; rintro e w' ⟨rfl, rfl⟩) | (go_at_call 42; refine (C0 _).out.mono ?_; rintro e w' ⟨rfl, rfl⟩))
      exact ⟨⟨1, by omega, rfl, rfl⟩, by simp [intOf]⟩
    · simp only [lK, hK]
      go_wp2_with (first | (go_at_call 41; refine (F1 _).out.mono ?_; rintro e w' ⟨rfl, rfl⟩) | (go_at_call 42; refine (C1 _).out.mono ?_; rintro e w' ⟨rfl, rfl⟩))
      all_goals exact ⟨⟨2, by omega, rfl, wspan (by simp only [lK, min4]; omega) (by simp only [hK, max4]; omega)⟩, by simp [intOf]⟩
    · simp only [lK, hK]
      generalize hm : min f0 f1 = mn at *
      generalize hM : max c0 c1 = mx at *
      have Hm := hid hm
      have HM := hid hM
      clear hm hM
      go_wp2_with (first | (go_at_call 41; refine (F2 _).out.mono ?_; rintro e w' ⟨rfl, rfl⟩) | (go_at_call 42; refine (C2 _).out.mono ?_; rintro e w' ⟨rfl, rfl⟩))
      all_goals exact ⟨⟨3, by omega, rfl, wspan (by simp only [lK, min4]; (try rw [Hm.out]); omega) (by simp only [hK, max4]; (try rw [HM.out]); omega)⟩, by simp [intOf]⟩
    · simp only [lK, hK]
      generalize hm : min (min f0 f1) f2 = mn at *
      generalize hM : max (max c0 c1) c2 = mx at *
      have Hm := hid hm
      have HM := hid hM
      clear hm hM
      go_wp2_with (first | (go_at_call 41; refine (F3 _).out.mono ?_; rintro e w' ⟨rfl, rfl⟩) | (go_at_call 42; refine (C3 _).out.mono ?_; rintro e w' ⟨rfl, rfl⟩))
      all_goals exact ⟨⟨4, by omega, rfl, wspan (by simp only [lK, min4]; (try rw [Hm.out]); omega) (by simp only [hK, max4]; (try rw [HM.out]); omega)⟩, by simp [intOf]⟩
    · simp only [lK, hK]
      generalize min4 f0 f1 f2 f3 = mn at *
      generalize max4 c0 c1 c2 c3 = mx at *
      go_wp2_with (go_at_call 40; refine (rFits_any _ _ _).mono ?_; rintro e w' ⟨rfl, rfl⟩)
      go_returns
      rw [HR.out]
      exact ⟨rfl, by go_grown⟩

/-- By of two spans that are right; the fault. -/
def spanByAll (al ah bl bh : Int) : Int × Int × Int := if bl ≤ 0 ∧ 0 ≤ bh then (0, 0, 8) else spanByR al ah bl bh
theorem rBy_any (al ah bl bh : Int) (w : World) (h1 : Um.may al = true) (h2 : Um.may ah = true) (h5 : Um.may bl = true) (hb : bl ≤ bh) :
    Calls Tryz.prog 20 #[.agg #[.int .i64 al, .int .i64 ah], .agg #[.int .i64 bl, .int .i64 bh]] w fun e w' => e = .returned (.tuple #[.agg #[.int .i64 (spanByAll al ah bl bh).1, .int .i64 (spanByAll al ah bl bh).2.1], .int .i64 (spanByAll al ah bl bh).2.2]) ∧ Below w.heap.size w w' := by
  unfold spanByAll
  by_cases hz : bl ≤ 0 ∧ 0 ≤ bh
  · rw [if_pos hz]; exact rBy_zero al ah bl bh w hz.1 hz.2
  · rw [if_neg hz]
    rcases (by omega : 0 < bl ∨ bh < 0) with h | h
    · exact rBy_pos al ah bl bh w h1 h2 h (by omega)
    · exact rBy_neg al ah bl bh w h1 h2 (by omega) h ((Um.may_iff bl).1 h5).1 (by have := ((Um.may_iff bl).1 h5).1; omega)
end Go.Proofs.YtkfalmdckmlneaaGreatDoor
namespace Go.Proofs.YtkfalmdckmlneaaGreatDoor
set_option linter.unusedSimpArgs false
open Go.RowKit

theorem ret_sp {a b a' b' : Int} (h1 : a = a') (h2 : b = b') : Ending.returned (.agg #[.int .i64 a, .int .i64 b]) = .returned (.agg #[.int .i64 a', .int .i64 b']) := by rw [h1, h2]
theorem rHull_any (al ah bl bh : Int) (w : World) :
    Calls Tryz.prog 22 #[.agg #[.int .i64 al, .int .i64 ah], .agg #[.int .i64 bl, .int .i64 bh]] w fun e w' => e = .returned (.agg #[.int .i64 (Um.hullR al ah bl bh).1, .int .i64 (Um.hullR al ah bl bh).2.1]) ∧ Below w.heap.size w w' := by
  have HR : Hid (Um.hullR al ah bl bh = (min al bl, max ah bh, 0)) := rfl
  generalize Um.hullR al ah bl bh = R at *
  go_enter Tryz.func22, Tryz.ntmps22
  go_wp2
  all_goals
    go_returns
    rw [HR.out]
    exact ⟨ret_sp (by simp only []; omega) (by simp only []; omega), by go_grown⟩

theorem rMeet_any (al ah bl bh : Int) (w : World) :
    Calls Tryz.prog 21 #[.agg #[.int .i64 al, .int .i64 ah], .agg #[.int .i64 bl, .int .i64 bh]] w fun e w' => e = .returned (.tuple #[.agg #[.int .i64 (Um.meetR al ah bl bh).1, .int .i64 (Um.meetR al ah bl bh).2.1], .int .i64 (Um.meetR al ah bl bh).2.2]) ∧ Below w.heap.size w w' := by
  by_cases hm : max al bl ≤ min ah bh
  · have HR := hid (Um.meet_yes hm)
    generalize Um.meetR al ah bl bh = R at *
    go_enter Tryz.func21, Tryz.ntmps21
    go_wp2
    all_goals first
      | (exfalso; omega)
      | (go_returns
         rw [HR.out]
         exact ⟨ret_s3 (by simp only []; omega) (by simp only []; omega) rfl, by go_grown⟩)
  · have HR := hid (Um.meet_no hm)
    generalize Um.meetR al ah bl bh = R at *
    go_enter Tryz.func21, Tryz.ntmps21
    go_wp2
    all_goals first
      | (exfalso; omega)
      | (go_returns
         rw [HR.out]
         exact ⟨rfl, by go_grown⟩)
end Go.Proofs.YtkfalmdckmlneaaGreatDoor
namespace Go.Proofs.YtkfalmdckmlneaaGreatDoor
set_option linter.unusedSimpArgs false
open Go.RowKit

theorem rAdd_any (al ah bl bh : Int) (w : World) (h1 : Um.may al = true) (h2 : Um.may ah = true) (h3 : Um.may bl = true) (h4 : Um.may bh = true) :
    Calls Tryz.prog 17 #[.agg #[.int .i64 al, .int .i64 ah], .agg #[.int .i64 bl, .int .i64 bh]] w fun e w' => e = .returned (.tuple #[.agg #[.int .i64 (Um.addR al ah bl bh).1, .int .i64 (Um.addR al ah bl bh).2.1], .int .i64 (Um.addR al ah bl bh).2.2]) ∧ Below w.heap.size w w' := by
  obtain ⟨a1, a2⟩ := (Um.may_iff al).1 h1
  obtain ⟨a3, a4⟩ := (Um.may_iff ah).1 h2
  obtain ⟨a5, a6⟩ := (Um.may_iff bl).1 h3
  obtain ⟨a7, a8⟩ := (Um.may_iff bh).1 h4
  clear h1 h2 h3 h4
  have HR : Hid (Um.addR al ah bl bh = fitR (al + bl) (ah + bh)) := rfl
  generalize Um.addR al ah bl bh = R at *
  go_enter Tryz.func17, Tryz.ntmps17
  go_wp2_with (go_at_call 40; refine (rFits_any _ _ _).mono ?_; rintro e w1 ⟨rfl, rfl⟩)
  go_returns
  rw [HR.out]
  exact ⟨rfl, by go_grown⟩
theorem rLess_any (al ah bl bh : Int) (w : World) (h1 : Um.may al = true) (h2 : Um.may ah = true) (h3 : Um.may bl = true) (h4 : Um.may bh = true) :
    Calls Tryz.prog 18 #[.agg #[.int .i64 al, .int .i64 ah], .agg #[.int .i64 bl, .int .i64 bh]] w fun e w' => e = .returned (.tuple #[.agg #[.int .i64 (Um.lessR al ah bl bh).1, .int .i64 (Um.lessR al ah bl bh).2.1], .int .i64 (Um.lessR al ah bl bh).2.2]) ∧ Below w.heap.size w w' := by
  obtain ⟨a1, a2⟩ := (Um.may_iff al).1 h1
  obtain ⟨a3, a4⟩ := (Um.may_iff ah).1 h2
  obtain ⟨a5, a6⟩ := (Um.may_iff bl).1 h3
  obtain ⟨a7, a8⟩ := (Um.may_iff bh).1 h4
  clear h1 h2 h3 h4
  have HR : Hid (Um.lessR al ah bl bh = fitR (al - bh) (ah - bl)) := rfl
  generalize Um.lessR al ah bl bh = R at *
  go_enter Tryz.func18, Tryz.ntmps18
  go_wp2_with (go_at_call 40; refine (rFits_any _ _ _).mono ?_; rintro e w1 ⟨rfl, rfl⟩)
  go_returns
  rw [HR.out]
  exact ⟨rfl, by go_grown⟩
theorem stimes_is (al ah bl bh : Int) : spanTimesR al ah bl bh = Um.stimesR al ah bl bh := rfl
theorem sby_is (al ah bl bh : Int) : spanByAll al ah bl bh = Um.sbyR al ah bl bh := rfl

theorem rTimes_um (al ah bl bh : Int) (w : World) (h1 : Um.may al = true) (h2 : Um.may ah = true) (h3 : Um.may bl = true) (h4 : Um.may bh = true) :
    Calls Tryz.prog 19 #[.agg #[.int .i64 al, .int .i64 ah], .agg #[.int .i64 bl, .int .i64 bh]] w fun e w' => e = .returned (.tuple #[.agg #[.int .i64 (Um.stimesR al ah bl bh).1, .int .i64 (Um.stimesR al ah bl bh).2.1], .int .i64 (Um.stimesR al ah bl bh).2.2]) ∧ Below w.heap.size w w' := by
  rw [← stimes_is]; exact rTimes_any al ah bl bh w h1 h2 h3 h4
theorem rBy_um (al ah bl bh : Int) (w : World) (h1 : Um.may al = true) (h2 : Um.may ah = true) (h5 : Um.may bl = true) (hb : bl ≤ bh) :
    Calls Tryz.prog 20 #[.agg #[.int .i64 al, .int .i64 ah], .agg #[.int .i64 bl, .int .i64 bh]] w fun e w' => e = .returned (.tuple #[.agg #[.int .i64 (Um.sbyR al ah bl bh).1, .int .i64 (Um.sbyR al ah bl bh).2.1], .int .i64 (Um.sbyR al ah bl bh).2.2]) ∧ Below w.heap.size w w' := by
  rw [← sby_is]; exact rBy_any al ah bl bh w h1 h2 h5 hb

end Go.Proofs.YtkfalmdckmlneaaGreatDoor
namespace Go.Proofs.YtkfalmdckmlneaaGreatDoor
set_option linter.unusedSimpArgs false
open Go.RowKit

theorem ag_go {n : Int} {k : Nat} (h : (Um.agR n k).2.2 = 0) (h2 : Um.may (Um.ce ((Um.agR n k).2.1 * n) 1000) = true) : Um.agR n (k + 1) = (Um.fl ((Um.agR n k).1 * n) 1000, Um.ce ((Um.agR n k).2.1 * n) 1000, 0) := by
  rw [Um.ag_succ, if_pos h, if_pos h2]
theorem ag_stay {n : Int} {k : Nat} (h : ¬ (Um.agR n k).2.2 = 0) : ∀ m, Um.agR n (k + m) = (0, 0, 4)
  | 0 => (Um.ag_fault n k).resolve_left h
  | m + 1 => by
    have i := ag_stay h m
    show Um.agR n (k + m + 1) = _
    rw [Um.ag_succ, i]; rfl
theorem ag_stop {n : Int} {k m : Nat} (hk : k < m) (h : (Um.agR n k).2.2 = 0) (h2 : Um.may (Um.ce ((Um.agR n k).2.1 * n) 1000) = false) : Um.agR n m = (0, 0, 4) := by
  have e : Um.agR n (k + 1) = (0, 0, 4) := by rw [Um.ag_succ, if_pos h, if_neg (by rw [h2]; decide)]
  obtain ⟨j, rfl⟩ : ∃ j, m = k + 1 + j := ⟨m - (k + 1), by omega⟩
  exact ag_stay (by rw [e]; decide) j
theorem ag_bound {n : Int} (hn : 0 ≤ n) (k : Nat) : 0 ≤ (Um.agR n k).1 ∧ (Um.agR n k).1 ≤ 1000000000 ∧ 0 ≤ (Um.agR n k).2.1 ∧ (Um.agR n k).2.1 ≤ 1000000000 := by
  by_cases h : (Um.agR n k).2.2 = 0
  · have := Um.ag_right hn k h
    omega
  · rw [(Um.ag_fault n k).resolve_left h]; decide

set_option maxHeartbeats 1000000 in
theorem rAgain_nat (n : Int) (K : Nat) (w : World) (hn : 0 ≤ n) (hn2 : n ≤ 1000000000) (hK : K ≤ 4) :
    Calls Tryz.prog 45 #[.int .i64 n, .int .i64 K] w fun e w' => e = .returned (.tuple #[.int .i64 (Um.agR n K).1, .int .i64 (Um.agR n K).2.1, .int .i64 (Um.agR n K).2.2]) ∧ w' = w := by
  go_enter Tryz.func45, Tryz.ntmps45
  go_wp2
  go_loop [7, 8, 9] (fun lo hi i => ∃ k : Nat, k ≤ K ∧ i = .int .i64 k ∧ lo = .int .i64 (Um.agR n k).1 ∧ hi = .int .i64 (Um.agR n k).2.1 ∧ Hid ((Um.agR n k).2.2 = 0)) (fun _ _ i => K - (intOf i).toNat)
  case atStart => exact ⟨0, by omega, rfl, rfl, rfl, rfl⟩
  case round =>
    obtain ⟨k, hk, rfl, rfl, rfl, h0⟩ := hrel
    have HS := fun (hk : k < K) h2 => hid (ag_stop hk h0.out h2)
    have HG := fun h2 => hid (ag_go h0.out h2)
    have r := ag_bound hn k
    generalize hp : (Um.agR n k).1 = p at *
    generalize hq : (Um.agR n k).2.1 = q at *
    have HP := hid hp
    have HQ := hid hq
    clear hp hq
    have b1 := Um.mul_bound (a := p) (b := n) ((Um.may_iff _).2 (by omega)) ((Um.may_iff _).2 (by omega))
    have b2 := Um.mul_bound (a := q) (b := n) ((Um.may_iff _).2 (by omega)) ((Um.may_iff _).2 (by omega))
    obtain ⟨r1, r2, r3, r4⟩ := r
    obtain ⟨b3, b4⟩ := b1
    obtain ⟨b5, b6⟩ := b2
    have HFl := fun w => hid (rFloor_any (p * n) 1000 w (by decide) (by omega) (by omega))
    have HCe := fun w => hid (rCeil_any (q * n) 1000 w (by decide) (by omega) (by omega))
    generalize Um.fl (p * n) 1000 = f at *
    generalize Um.ce (q * n) 1000 = c at *
    cases hm : Um.may c
    all_goals go_wp2_with (first | (go_at_call 41; refine (HFl _).out.mono ?_; rintro e w1 ⟨rfl, rfl⟩) | (go_at_call 42; refine (HCe _).out.mono ?_; rintro e w1 ⟨rfl, rfl⟩) | (go_at_call 46; refine (rMay_any _ _).mono ?_; rintro e w1 ⟨rfl, rfl⟩))
    · go_returns
      rw [(HS (by omega) hm).out]
      exact ⟨rfl, rfl⟩
    · have : k = K := by omega
      subst this
      go_returns
      rw [HP.out, HQ.out, h0.out]
      exact ⟨rfl, rfl⟩
    · have e := (HG hm).out
      exact ⟨⟨k + 1, by omega, rfl, by rw [e], by rw [e], by rw [Hid, e]⟩, by simp [intOf]; omega⟩
    · have : k = K := by omega
      subst this
      go_returns
      rw [HP.out, HQ.out, h0.out]
      exact ⟨rfl, rfl⟩
theorem rAgain_any (n t : Int) (K : Nat) (w : World) (ht : t = K) (hn : 0 ≤ n) (hn2 : n ≤ 1000000000) (hK : K ≤ 4) :
    Calls Tryz.prog 45 #[.int .i64 n, .int .i64 t] w fun e w' => e = .returned (.tuple #[.int .i64 (Um.agR n K).1, .int .i64 (Um.agR n K).2.1, .int .i64 (Um.agR n K).2.2]) ∧ w' = w := by
  subst ht; exact rAgain_nat n K w hn hn2 hK

theorem rfar_lo {lo hi : Int} (h : lo ≤ hi) : (Um.farR lo hi).1 = max 0 (max lo (-hi)) := by
  unfold Um.farR Um.ab
  simp only []
  repeat' split
  all_goals omega
theorem rfar_hi {lo hi : Int} (h : lo ≤ hi) : (Um.farR lo hi).2 = max (-lo) hi := by
  unfold Um.farR Um.ab
  simp only []
  repeat' split
  all_goals omega
set_option maxHeartbeats 1000000 in
theorem rFar_any (lo hi : Int) (w : World) (a1 : -1000000000 ≤ lo) (a2 : lo ≤ 1000000000) (a3 : -1000000000 ≤ hi) (a4 : hi ≤ 1000000000) (h : lo ≤ hi) :
    Calls Tryz.prog 44 #[.agg #[.int .i64 lo, .int .i64 hi]] w fun e w' => e = .returned (.tuple #[.int .i64 (Um.farR lo hi).1, .int .i64 (Um.farR lo hi).2]) ∧ w' = (w.alloc (.cells #[.int .i64 lo, .int .i64 hi] 29)).alloc (.cells #[.int .i64 lo, .int .i64 hi] 29) := by
  have H1 := hid (rfar_lo h)
  have H2 := hid (rfar_hi h)
  generalize Um.farR lo hi = r at *
  by_cases hz : lo ≤ 0 ∧ 0 ≤ hi
  · have z : (decide (lo ≤ 0) && decide (0 ≤ hi)) = true := by simpa using hz
    go_enter Tryz.func44, Tryz.ntmps44
    go_wp2_with (go_at_call 43; refine (rZero_any _ _ _).mono ?_; rintro e w1 ⟨rfl, rfl⟩)
    all_goals
      go_returns
      exact ⟨ret2i (by rw [H1.out]; omega) (by rw [H2.out]; omega), rfl⟩
  · have z : (decide (lo ≤ 0) && decide (0 ≤ hi)) = false := by
      cases hh : (decide (lo ≤ 0) && decide (0 ≤ hi))
      · rfl
      · exact absurd (by simpa using hh) hz
    go_enter Tryz.func44, Tryz.ntmps44
    go_wp2_with (go_at_call 43; refine (rZero_any _ _ _).mono ?_; rintro e w1 ⟨rfl, rfl⟩)
    all_goals
      go_returns
      exact ⟨ret2i (by rw [H1.out]; omega) (by rw [H2.out]; omega), rfl⟩

theorem rMiddle_any (lo hi : Int) (w : World) (a1 : -1000000000 ≤ lo) (a2 : lo ≤ 1000000000) (a3 : -1000000000 ≤ hi) (a4 : hi ≤ 1000000000) :
    Calls Tryz.prog 52 #[.agg #[.int .i64 lo, .int .i64 hi]] w fun e w' => e = .returned (.int .i64 (Um.midR lo hi)) ∧ w' = w.alloc (.cells #[.int .i64 lo, .int .i64 hi] 29) := by
  have HF := fun w => hid (rFloor_any (lo + hi) 2 w (by decide) (by omega) (by omega))
  have HR : Hid (Um.midR lo hi = Um.fl (lo + hi) 2) := rfl
  generalize Um.midR lo hi = r at *
  go_enter Tryz.func52, Tryz.ntmps52
  go_wp2_with (go_at_call 41; refine (HF _).out.mono ?_; rintro e w1 ⟨rfl, rfl⟩)
  go_returns
  rw [HR.out]
  exact ⟨rfl, rfl⟩

set_option maxRecDepth 100000 in
set_option maxHeartbeats 4000000 in
theorem rPower_even (lo hi n : Int) (k : Nat) (w : World) (hc : Um.chk lo hi = 0) (hk : n = k) (h4 : k ≤ 4) (hp : k % 2 = 0) :
    Calls Tryz.prog 24 #[.agg #[.int .i64 lo, .int .i64 hi], .int .i64 n] w fun e w' => e = .returned (.tuple #[.agg #[.int .i64 (Um.powR lo hi k).1, .int .i64 (Um.powR lo hi k).2.1], .int .i64 (Um.powR lo hi k).2.2]) ∧ Below w.heap.size w w' := by
  obtain ⟨m1, m2, m3⟩ := Um.chk_ok.1 hc
  obtain ⟨b1, b2⟩ := (Um.may_iff lo).1 m1
  obtain ⟨b3, b4⟩ := (Um.may_iff hi).1 m2
  have t3 : (n.tmod 2 == 0) = true := by
    have : n = 0 ∨ n = 1 ∨ n = 2 ∨ n = 3 ∨ n = 4 := by omega
    rcases this with rfl | rfl | rfl | rfl | rfl <;> first | rfl | (exfalso; omega)
  have HA := fun x w h1 h2 => hid (rAgain_any x n k w hk h1 h2 h4)
  clear hk
  have HR : Hid (Um.powR lo hi k = Um.both (Um.agR (Um.farR lo hi).1 k) (Um.agR (Um.farR lo hi).2 k)) := by unfold Um.powR; rw [if_pos hp]; rfl
  have r := Um.far_right m3
  have m := Um.far_may m1 m2
  have HF := fun w => hid (rFar_any lo hi w b1 b2 b3 b4 m3)
  generalize (Um.farR lo hi).1 = f at *
  generalize (Um.farR lo hi).2 = t at *
  generalize Um.powR lo hi k = R at *
  clear hc m1 m2 hp
  by_cases ha : (Um.agR f k).2.2 = 0
  · by_cases hb : (Um.agR t k).2.2 = 0
    · have HJ : Hid (R = ((Um.agR f k).1, (Um.agR t k).2.1, 0)) := by rw [HR.out]; unfold Um.both; simp [ha, hb, Hid]
      have k2 : ((Um.agR f k).2.2 != 0) = false := by simpa using ha
      have k3 : ((Um.agR t k).2.2 != 0) = false := by simpa using hb
      clear ha hb
      go_enter Tryz.func24, Tryz.ntmps24
      go_wp2_with (first | (go_at_call 44; refine (HF _).out.mono ?_; rintro e w1 ⟨rfl, rfl⟩) | (go_at_call 45; refine (HA _ _ (by omega) (by omega)).out.mono ?_; rintro e w1 ⟨rfl, rfl⟩))
      go_returns
      rw [HJ.out]
      exact ⟨rfl, by go_grown⟩
    · have HJ : Hid (R = (0, 0, (Um.agR t k).2.2)) := by rw [HR.out]; unfold Um.both; simp [ha, hb, Hid]
      have k2 : ((Um.agR f k).2.2 != 0) = false := by simpa using ha
      have k3 : ((Um.agR t k).2.2 != 0) = true := by simpa using hb
      clear ha hb
      go_enter Tryz.func24, Tryz.ntmps24
      go_wp2_with (first | (go_at_call 44; refine (HF _).out.mono ?_; rintro e w1 ⟨rfl, rfl⟩) | (go_at_call 45; refine (HA _ _ (by omega) (by omega)).out.mono ?_; rintro e w1 ⟨rfl, rfl⟩))
      go_returns
      rw [HJ.out]
      exact ⟨rfl, by go_grown⟩
  · have HJ : Hid (R = (0, 0, (Um.agR f k).2.2)) := by rw [HR.out]; unfold Um.both; simp [ha, Hid]
    have k2 : ((Um.agR f k).2.2 != 0) = true := by simpa using ha
    clear ha
    go_enter Tryz.func24, Tryz.ntmps24
    go_wp2_with (first | (go_at_call 44; refine (HF _).out.mono ?_; rintro e w1 ⟨rfl, rfl⟩) | (go_at_call 45; refine (HA _ _ (by omega) (by omega)).out.mono ?_; rintro e w1 ⟨rfl, rfl⟩))
    go_returns
    rw [HJ.out]
    exact ⟨rfl, by go_grown⟩

set_option maxRecDepth 100000 in
set_option maxHeartbeats 4000000 in
theorem rPower_up (lo hi n : Int) (k : Nat) (w : World) (hc : Um.chk lo hi = 0) (hk : n = k) (h4 : k ≤ 4) (hp : ¬ k % 2 = 0) (hl : 0 ≤ lo) (hh : 0 ≤ hi) :
    Calls Tryz.prog 24 #[.agg #[.int .i64 lo, .int .i64 hi], .int .i64 n] w fun e w' => e = .returned (.tuple #[.agg #[.int .i64 (Um.powR lo hi k).1, .int .i64 (Um.powR lo hi k).2.1], .int .i64 (Um.powR lo hi k).2.2]) ∧ Below w.heap.size w w' := by
  obtain ⟨m1, m2, m3⟩ := Um.chk_ok.1 hc
  obtain ⟨b1, b2⟩ := (Um.may_iff lo).1 m1
  obtain ⟨b3, b4⟩ := (Um.may_iff hi).1 m2
  have t3 : (n.tmod 2 == 0) = false := by
    have : n = 0 ∨ n = 1 ∨ n = 2 ∨ n = 3 ∨ n = 4 := by omega
    rcases this with rfl | rfl | rfl | rfl | rfl <;> first | rfl | (exfalso; omega)
  have HA := fun x w h1 h2 => hid (rAgain_any x n k w hk h1 h2 h4)
  clear hk
  have e1 : Um.endR lo k = Um.agR lo k := by unfold Um.endR; rw [if_pos hl]
  have e2 : Um.endR hi k = Um.agR hi k := by unfold Um.endR; rw [if_pos hh]
  have HR : Hid (Um.powR lo hi k = Um.both (Um.agR lo k) (Um.agR hi k)) := by unfold Um.powR; rw [if_neg hp, e1, e2]; rfl
  have y1 : decide (0 ≤ lo) = true := by simpa using hl
  have y2 : decide (0 ≤ hi) = true := by simpa using hh
  have c1 := ag_bound (n := lo) (by omega) k
  have c2 := ag_bound (n := hi) (by omega) k
  generalize Um.powR lo hi k = R at *
  clear hc m1 m2 hp e1 e2
  by_cases ha : (Um.agR lo k).2.2 = 0
  · by_cases hb : (Um.agR hi k).2.2 = 0
    · have HJ : Hid (R = ((Um.agR lo k).1, (Um.agR hi k).2.1, 0)) := by rw [HR.out]; unfold Um.both; simp [ha, hb, Hid]
      have k2 : ((Um.agR lo k).2.2 != 0) = false := by simpa using ha
      have k3 : ((Um.agR hi k).2.2 != 0) = false := by simpa using hb
      clear ha hb
      go_enter Tryz.func24, Tryz.ntmps24
      go_wp2_with (first | (go_at_call 45; refine (HA _ _ (by omega) (by omega)).out.mono ?_; rintro e w1 ⟨rfl, rfl⟩))
      go_returns
      rw [HJ.out]
      exact ⟨rfl, by go_grown⟩
    · have HJ : Hid (R = (0, 0, (Um.agR hi k).2.2)) := by rw [HR.out]; unfold Um.both; simp [ha, hb, Hid]
      have k2 : ((Um.agR lo k).2.2 != 0) = false := by simpa using ha
      have k3 : ((Um.agR hi k).2.2 != 0) = true := by simpa using hb
      clear ha hb
      go_enter Tryz.func24, Tryz.ntmps24
      go_wp2_with (first | (go_at_call 45; refine (HA _ _ (by omega) (by omega)).out.mono ?_; rintro e w1 ⟨rfl, rfl⟩))
      go_returns
      rw [HJ.out]
      exact ⟨rfl, by go_grown⟩
  · have HJ : Hid (R = (0, 0, (Um.agR lo k).2.2)) := by rw [HR.out]; unfold Um.both; simp [ha, Hid]
    have k2 : ((Um.agR lo k).2.2 != 0) = true := by simpa using ha
    clear ha
    go_enter Tryz.func24, Tryz.ntmps24
    go_wp2_with (first | (go_at_call 45; refine (HA _ _ (by omega) (by omega)).out.mono ?_; rintro e w1 ⟨rfl, rfl⟩))
    go_returns
    rw [HJ.out]
    exact ⟨rfl, by go_grown⟩

set_option maxRecDepth 100000 in
set_option maxHeartbeats 4000000 in
theorem rPower_over (lo hi n : Int) (k : Nat) (w : World) (hc : Um.chk lo hi = 0) (hk : n = k) (h4 : k ≤ 4) (hp : ¬ k % 2 = 0) (hl : lo < 0) (hh : 0 ≤ hi) :
    Calls Tryz.prog 24 #[.agg #[.int .i64 lo, .int .i64 hi], .int .i64 n] w fun e w' => e = .returned (.tuple #[.agg #[.int .i64 (Um.powR lo hi k).1, .int .i64 (Um.powR lo hi k).2.1], .int .i64 (Um.powR lo hi k).2.2]) ∧ Below w.heap.size w w' := by
  obtain ⟨m1, m2, m3⟩ := Um.chk_ok.1 hc
  obtain ⟨b1, b2⟩ := (Um.may_iff lo).1 m1
  obtain ⟨b3, b4⟩ := (Um.may_iff hi).1 m2
  have t3 : (n.tmod 2 == 0) = false := by
    have : n = 0 ∨ n = 1 ∨ n = 2 ∨ n = 3 ∨ n = 4 := by omega
    rcases this with rfl | rfl | rfl | rfl | rfl <;> first | rfl | (exfalso; omega)
  have HA := fun x w h1 h2 => hid (rAgain_any x n k w hk h1 h2 h4)
  clear hk
  have e1 : Um.endR lo k = (-(Um.agR (-lo) k).2.1, -(Um.agR (-lo) k).1, (Um.agR (-lo) k).2.2) := by unfold Um.endR; rw [if_neg (by omega)]
  have e2 : Um.endR hi k = Um.agR hi k := by unfold Um.endR; rw [if_pos hh]
  have HR : Hid (Um.powR lo hi k = Um.both ((-(Um.agR (-lo) k).2.1, -(Um.agR (-lo) k).1, (Um.agR (-lo) k).2.2)) (Um.agR hi k)) := by unfold Um.powR; rw [if_neg hp, e1, e2]; rfl
  have y1 : decide (0 ≤ lo) = false := by simpa using hl
  have y2 : decide (0 ≤ hi) = true := by simpa using hh
  have c1 := ag_bound (n := -lo) (by omega) k
  have c2 := ag_bound (n := hi) (by omega) k
  generalize Um.powR lo hi k = R at *
  clear hc m1 m2 hp e1 e2
  by_cases ha : (Um.agR (-lo) k).2.2 = 0
  · by_cases hb : (Um.agR hi k).2.2 = 0
    · have HJ : Hid (R = (-(Um.agR (-lo) k).2.1, (Um.agR hi k).2.1, 0)) := by rw [HR.out]; unfold Um.both; simp [ha, hb, Hid]
      have k2 : ((Um.agR (-lo) k).2.2 != 0) = false := by simpa using ha
      have k3 : ((Um.agR hi k).2.2 != 0) = false := by simpa using hb
      clear ha hb
      go_enter Tryz.func24, Tryz.ntmps24
      go_wp2_with (first | (go_at_call 45; refine (HA _ _ (by omega) (by omega)).out.mono ?_; rintro e w1 ⟨rfl, rfl⟩))
      go_returns
      rw [HJ.out]
      exact ⟨rfl, by go_grown⟩
    · have HJ : Hid (R = (0, 0, (Um.agR hi k).2.2)) := by rw [HR.out]; unfold Um.both; simp [ha, hb, Hid]
      have k2 : ((Um.agR (-lo) k).2.2 != 0) = false := by simpa using ha
      have k3 : ((Um.agR hi k).2.2 != 0) = true := by simpa using hb
      clear ha hb
      go_enter Tryz.func24, Tryz.ntmps24
      go_wp2_with (first | (go_at_call 45; refine (HA _ _ (by omega) (by omega)).out.mono ?_; rintro e w1 ⟨rfl, rfl⟩))
      go_returns
      rw [HJ.out]
      exact ⟨rfl, by go_grown⟩
  · have HJ : Hid (R = (0, 0, (Um.agR (-lo) k).2.2)) := by rw [HR.out]; unfold Um.both; simp [ha, Hid]
    have k2 : ((Um.agR (-lo) k).2.2 != 0) = true := by simpa using ha
    clear ha
    go_enter Tryz.func24, Tryz.ntmps24
    go_wp2_with (first | (go_at_call 45; refine (HA _ _ (by omega) (by omega)).out.mono ?_; rintro e w1 ⟨rfl, rfl⟩))
    go_returns
    rw [HJ.out]
    exact ⟨rfl, by go_grown⟩

set_option maxRecDepth 100000 in
set_option maxHeartbeats 4000000 in
theorem rPower_down (lo hi n : Int) (k : Nat) (w : World) (hc : Um.chk lo hi = 0) (hk : n = k) (h4 : k ≤ 4) (hp : ¬ k % 2 = 0) (hl : lo < 0) (hh : hi < 0) :
    Calls Tryz.prog 24 #[.agg #[.int .i64 lo, .int .i64 hi], .int .i64 n] w fun e w' => e = .returned (.tuple #[.agg #[.int .i64 (Um.powR lo hi k).1, .int .i64 (Um.powR lo hi k).2.1], .int .i64 (Um.powR lo hi k).2.2]) ∧ Below w.heap.size w w' := by
  obtain ⟨m1, m2, m3⟩ := Um.chk_ok.1 hc
  obtain ⟨b1, b2⟩ := (Um.may_iff lo).1 m1
  obtain ⟨b3, b4⟩ := (Um.may_iff hi).1 m2
  have t3 : (n.tmod 2 == 0) = false := by
    have : n = 0 ∨ n = 1 ∨ n = 2 ∨ n = 3 ∨ n = 4 := by omega
    rcases this with rfl | rfl | rfl | rfl | rfl <;> first | rfl | (exfalso; omega)
  have HA := fun x w h1 h2 => hid (rAgain_any x n k w hk h1 h2 h4)
  clear hk
  have e1 : Um.endR lo k = (-(Um.agR (-lo) k).2.1, -(Um.agR (-lo) k).1, (Um.agR (-lo) k).2.2) := by unfold Um.endR; rw [if_neg (by omega)]
  have e2 : Um.endR hi k = (-(Um.agR (-hi) k).2.1, -(Um.agR (-hi) k).1, (Um.agR (-hi) k).2.2) := by unfold Um.endR; rw [if_neg (by omega)]
  have HR : Hid (Um.powR lo hi k = Um.both ((-(Um.agR (-lo) k).2.1, -(Um.agR (-lo) k).1, (Um.agR (-lo) k).2.2)) ((-(Um.agR (-hi) k).2.1, -(Um.agR (-hi) k).1, (Um.agR (-hi) k).2.2))) := by unfold Um.powR; rw [if_neg hp, e1, e2]; rfl
  have y1 : decide (0 ≤ lo) = false := by simpa using hl
  have y2 : decide (0 ≤ hi) = false := by simpa using hh
  have c1 := ag_bound (n := -lo) (by omega) k
  have c2 := ag_bound (n := -hi) (by omega) k
  generalize Um.powR lo hi k = R at *
  clear hc m1 m2 hp e1 e2
  by_cases ha : (Um.agR (-lo) k).2.2 = 0
  · by_cases hb : (Um.agR (-hi) k).2.2 = 0
    · have HJ : Hid (R = (-(Um.agR (-lo) k).2.1, -(Um.agR (-hi) k).1, 0)) := by rw [HR.out]; unfold Um.both; simp [ha, hb, Hid]
      have k2 : ((Um.agR (-lo) k).2.2 != 0) = false := by simpa using ha
      have k3 : ((Um.agR (-hi) k).2.2 != 0) = false := by simpa using hb
      clear ha hb
      go_enter Tryz.func24, Tryz.ntmps24
      go_wp2_with (first | (go_at_call 45; refine (HA _ _ (by omega) (by omega)).out.mono ?_; rintro e w1 ⟨rfl, rfl⟩))
      go_returns
      rw [HJ.out]
      exact ⟨rfl, by go_grown⟩
    · have HJ : Hid (R = (0, 0, (Um.agR (-hi) k).2.2)) := by rw [HR.out]; unfold Um.both; simp [ha, hb, Hid]
      have k2 : ((Um.agR (-lo) k).2.2 != 0) = false := by simpa using ha
      have k3 : ((Um.agR (-hi) k).2.2 != 0) = true := by simpa using hb
      clear ha hb
      go_enter Tryz.func24, Tryz.ntmps24
      go_wp2_with (first | (go_at_call 45; refine (HA _ _ (by omega) (by omega)).out.mono ?_; rintro e w1 ⟨rfl, rfl⟩))
      go_returns
      rw [HJ.out]
      exact ⟨rfl, by go_grown⟩
  · have HJ : Hid (R = (0, 0, (Um.agR (-lo) k).2.2)) := by rw [HR.out]; unfold Um.both; simp [ha, Hid]
    have k2 : ((Um.agR (-lo) k).2.2 != 0) = true := by simpa using ha
    clear ha
    go_enter Tryz.func24, Tryz.ntmps24
    go_wp2_with (first | (go_at_call 45; refine (HA _ _ (by omega) (by omega)).out.mono ?_; rintro e w1 ⟨rfl, rfl⟩))
    go_returns
    rw [HJ.out]
    exact ⟨rfl, by go_grown⟩

theorem rPower_any (lo hi n : Int) (k : Nat) (w : World) (hc : Um.chk lo hi = 0) (hk : n = k) (h4 : k ≤ 4) :
    Calls Tryz.prog 24 #[.agg #[.int .i64 lo, .int .i64 hi], .int .i64 n] w fun e w' => e = .returned (.tuple #[.agg #[.int .i64 (Um.powR lo hi k).1, .int .i64 (Um.powR lo hi k).2.1], .int .i64 (Um.powR lo hi k).2.2]) ∧ Below w.heap.size w w' := by
  by_cases hp : k % 2 = 0
  · exact rPower_even lo hi n k w hc hk h4 hp
  · obtain ⟨_, _, m3⟩ := Um.chk_ok.1 hc
    rcases (by omega : 0 ≤ lo ∨ (lo < 0 ∧ 0 ≤ hi) ∨ (lo < 0 ∧ hi < 0)) with h | ⟨h, h'⟩ | ⟨h, h'⟩
    · exact rPower_up lo hi n k w hc hk h4 hp h (by omega)
    · exact rPower_over lo hi n k w hc hk h4 hp h h'
    · exact rPower_down lo hi n k w hc hk h4 hp h h'
end Go.Proofs.YtkfalmdckmlneaaGreatDoor
