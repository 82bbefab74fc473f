/-
  The walk over 'spanlaw4.MonoStraight': for all a, b, x it returns true.
-/
import Derived.Test.YtfmjndipanlcoaaMono
namespace Go.Proofs.Ytfmjndipanlcoaa.MStr
set_option linter.unusedSimpArgs false
open Go.RowKit

theorem ders_two (a b : Int) : Um.ders [a, b] = [b] := by
  simp [Um.ders, List.range_succ]
/-- A line goes one way. -/
theorem line {a b lo hi : Int} (h : (Um.wayAll [a, b] lo hi).2 = 0) : Um.wayAll [a, b] lo hi = (if 0 ≤ b then 1 else -1, 0) := by
  unfold Um.wayAll Um.slopeAll at *
  by_cases ho : Um.over [a, b] lo hi = 0
  · rw [if_pos ho] at h ⊢
    by_cases hs : (Um.slopeR lo hi [a, b]).2.2 = 0
    · rw [if_pos hs]
      have e : Um.slopeR lo hi [a, b] = (b, b, 0) := by
        unfold Um.slopeR at hs ⊢
        by_cases hd : (Um.derR [a, b]).2 = 0
        · rw [if_pos hd, ders_two]; rfl
        · rw [if_neg hd] at hs; exact absurd hs (by decide)
      rw [e]
      unfold Um.wayR
      by_cases hb : 0 ≤ b
      · rw [if_pos hb, if_pos hb]
      · rw [if_neg hb, if_neg hb, if_pos (show (b, b, (0 : Int)).2.1 ≤ 0 by show b ≤ 0; omega)]
    · rw [if_neg hs] at h; exact absurd h hs
  · rw [if_neg ho] at h
    rw [if_neg ho] at h
    exact absurd h ho

set_option maxRecDepth 100000 in
set_option maxHeartbeats 8000000 in
theorem walk_wrong (a b lo hi : Int) (w : World) (h : ¬ (Um.wayAll [a, b] lo hi).2 = 0) :
    Calls Try.prog 9 #[.int .i64 a, .int .i64 b, .agg #[.int .i64 lo, .int .i64 hi]] w fun e w' => e = .returned (.bool true) ∧ Below w.heap.size w w' := by
  have v0 := errV_none
  have q1 := errG
  have q2 := errGn
  have q3 := errE
  have q4 := errN
  have HW := fun v w hl => hid (way_any [a, b] v lo hi w hl)
  have k : ((Um.wayAll [a, b] lo hi).2 != 0) = true := by simpa using h
  clear h
  generalize Um.wayAll [a, b] lo hi = W at *
  have hF := (Fr.start w).push lo hi rfl
  have x0l := (hF.at 0 rfl).lo
  have x0h := (hF.at 0 rfl).hi
  go_enter Try.func9, Try.ntmps9
  go_wp2_with (first | (go_at_call 24; refine (HW _ _ (Li.lit (p := [a, b]) (by simp) two_cells)).out.mono ?_; rintro e wn ⟨rfl, hb⟩; replace hF := (hF.alloc _).step hb; clear hb))
  go_returns
  exact ⟨rfl, hF.below⟩

set_option maxRecDepth 100000 in
set_option maxHeartbeats 8000000 in
theorem walk_up (a b lo hi : Int) (w : World) (h : (Um.wayAll [a, b] lo hi).2 = 0) (hb0 : 0 ≤ b) :
    Calls Try.prog 9 #[.int .i64 a, .int .i64 b, .agg #[.int .i64 lo, .int .i64 hi]] w fun e w' => e = .returned (.bool true) ∧ Below w.heap.size w w' := by
  have v0 := errV_none
  have q1 := errG
  have q2 := errGn
  have q3 := errE
  have q4 := errN
  have HW := fun v w hl => hid (way_any [a, b] v lo hi w hl)
  have e := line h
  rw [if_pos hb0] at e
  rw [e] at HW
  have t : decide (0 ≤ b) = true := by simpa using hb0
  clear h e hb0
  have hF := (Fr.start w).push lo hi rfl
  have x0l := (hF.at 0 rfl).lo
  have x0h := (hF.at 0 rfl).hi
  go_enter Try.func9, Try.ntmps9
  go_wp2_with (first | (go_at_call 24; refine (HW _ _ (Li.lit (p := [a, b]) (by simp) two_cells)).out.mono ?_; rintro e wn ⟨rfl, hb⟩; replace hF := (hF.alloc _).step hb; clear hb))
  go_returns
  exact ⟨rfl, hF.below⟩

set_option maxRecDepth 100000 in
set_option maxHeartbeats 8000000 in
theorem walk_down (a b lo hi : Int) (w : World) (h : (Um.wayAll [a, b] lo hi).2 = 0) (hb0 : ¬ 0 ≤ b) :
    Calls Try.prog 9 #[.int .i64 a, .int .i64 b, .agg #[.int .i64 lo, .int .i64 hi]] w fun e w' => e = .returned (.bool true) ∧ Below w.heap.size w w' := by
  have v0 := errV_none
  have q1 := errG
  have q2 := errGn
  have q3 := errE
  have q4 := errN
  have HW := fun v w hl => hid (way_any [a, b] v lo hi w hl)
  have e := line h
  rw [if_neg hb0] at e
  rw [e] at HW
  have t : decide (0 ≤ b) = false := by simpa using hb0
  clear h e hb0
  have hF := (Fr.start w).push lo hi rfl
  have x0l := (hF.at 0 rfl).lo
  have x0h := (hF.at 0 rfl).hi
  go_enter Try.func9, Try.ntmps9
  go_wp2_with (first | (go_at_call 24; refine (HW _ _ (Li.lit (p := [a, b]) (by simp) two_cells)).out.mono ?_; rintro e wn ⟨rfl, hb⟩; replace hF := (hF.alloc _).step hb; clear hb))
  go_returns
  exact ⟨rfl, hF.below⟩

theorem walk (a b lo hi : Int) (w : World) :
    Calls Try.prog 9 #[.int .i64 a, .int .i64 b, .agg #[.int .i64 lo, .int .i64 hi]] w fun e w' => e = .returned (.bool true) ∧ Below w.heap.size w w' := by
  by_cases h : (Um.wayAll [a, b] lo hi).2 = 0
  · by_cases hb0 : 0 ≤ b
    · exact walk_up a b lo hi w h hb0
    · exact walk_down a b lo hi w h hb0
  · exact walk_wrong a b lo hi w h
end Go.Proofs.Ytfmjndipanlcoaa.MStr
