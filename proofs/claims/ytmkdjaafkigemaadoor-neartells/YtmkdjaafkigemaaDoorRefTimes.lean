/-
  What the document's answer (package spanref1) to Times of two spans is: of all four products the least one rounded down and the greatest one rounded up, if both may be.
-/
import Derived.Test.YtmkdjaafkigemaaDoorRef
namespace Go.Proofs.YtmkdjaafkigemaaDoor
set_option linter.unusedSimpArgs false
open Go.RowKit

def mnK (p0 p1 p2 p3 : Int) : Nat → Int
  | 0 => p0
  | 1 => p0
  | 2 => min p0 p1
  | 3 => min (min p0 p1) p2
  | _ => min4 p0 p1 p2 p3
def mxK (p0 p1 p2 p3 : Int) : Nat → Int
  | 0 => p0
  | 1 => p0
  | 2 => max p0 p1
  | 3 => max (max p0 p1) p2
  | _ => max4 p0 p1 p2 p3
theorem vint {a b : Int} (h : a = b) : Value.int .i64 a = Value.int .i64 b := by rw [h]

/-- Times of two spans. -/
def spanTimesR (al ah bl bh : Int) : Int × Int × Int :=
  fitR (Um.fl (min4 (al * bl) (al * bh) (ah * bl) (ah * bh)) 1000) (Um.ce (max4 (al * bl) (al * bh) (ah * bl) (ah * bh)) 1000)

set_option maxRecDepth 100000 in
set_option maxHeartbeats 2000000 in
theorem rTimes_any (al ah bl bh : Int) (w : World) (h1 : Um.may al = true) (h2 : Um.may ah = true) (h3 : Um.may bl = true) (h4 : Um.may bh = true) :
    Calls Tryd.prog 31 #[.agg #[.int .i64 al, .int .i64 ah], .agg #[.int .i64 bl, .int .i64 bh]] w fun e w' => e = .returned (.tuple #[.agg #[.int .i64 (spanTimesR al ah bl bh).1, .int .i64 (spanTimesR al ah bl bh).2.1], .int .i64 (spanTimesR al ah bl bh).2.2]) ∧ Below w.heap.size w w' := by
  have m0 := Um.mul_bound h1 h3
  have m1 := Um.mul_bound h1 h4
  have m2 := Um.mul_bound h2 h3
  have m3 := Um.mul_bound h2 h4
  have HR : Hid (spanTimesR al ah bl bh = fitR (Um.fl (min4 (al * bl) (al * bh) (ah * bl) (ah * bh)) 1000) (Um.ce (max4 (al * bl) (al * bh) (ah * bl) (ah * bh)) 1000)) := rfl
  generalize spanTimesR al ah bl bh = R at *
  clear h1 h2 h3 h4
  generalize q0 : al * bl = p0 at *
  generalize q1 : al * bh = p1 at *
  generalize q2 : ah * bl = p2 at *
  generalize q3 : ah * bh = p3 at *
  obtain ⟨a0, b0⟩ := m0
  obtain ⟨a1, b1⟩ := m1
  obtain ⟨a2, b2⟩ := m2
  obtain ⟨a3, b3⟩ := m3
  go_enter Tryd.func31, Tryd.ntmps31
  go_wp2
  clear q0 q1 q2 q3
  go_loop [7, 8, 9] (fun lo hi i => ∃ k : Nat, 1 ≤ k ∧ k ≤ 4 ∧ i = .int .i64 k ∧ lo = .int .i64 (mnK p0 p1 p2 p3 k) ∧ hi = .int .i64 (mxK p0 p1 p2 p3 k)) (fun _ _ i => 4 - (intOf i).toNat)
  case atStart => exact ⟨1, by omega, by omega, rfl, rfl, rfl⟩
  case round =>
    obtain ⟨k, hk1, hk4, rfl, rfl, rfl⟩ := hrel
    rcases (by omega : k = 1 ∨ k = 2 ∨ k = 3 ∨ k = 4) with rfl | rfl | rfl | rfl
    · simp only [mnK, mxK]
      go_wp2
      all_goals
        go_round
        case rel => exact ⟨2, by omega, by omega, rfl, vint (by simp only [mnK]; omega), vint (by simp only [mxK]; omega)⟩
        case measure => simp [intOf]
    · simp only [mnK, mxK]
      generalize hm : min p0 p1 = mn at *
      generalize hM : max p0 p1 = mx at *
      have Hm := hid hm
      have HM := hid hM
      clear hm hM
      go_wp2
      all_goals
        go_round
        case rel => exact ⟨3, by omega, by omega, rfl, vint (by simp only [mnK]; (try rw [Hm.out]); omega), vint (by simp only [mxK]; (try rw [HM.out]); omega)⟩
        case measure => simp [intOf]
    · simp only [mnK, mxK]
      generalize hm : min (min p0 p1) p2 = mn at *
      generalize hM : max (max p0 p1) p2 = mx at *
      have Hm := hid hm
      have HM := hid hM
      clear hm hM
      go_wp2
      all_goals
        go_round
        case rel => exact ⟨4, by omega, by omega, rfl, vint (by simp only [mnK, min4]; (try rw [Hm.out]); omega), vint (by simp only [mxK, max4]; (try rw [HM.out]); omega)⟩
        case measure => simp [intOf]
    · have l1 : -1000000000000000000 ≤ min4 p0 p1 p2 p3 := by unfold min4; omega
      have l2 : min4 p0 p1 p2 p3 ≤ 1000000000000000000 := by unfold min4; omega
      have l3 : -1000000000000000000 ≤ max4 p0 p1 p2 p3 := by unfold max4; omega
      have l4 : max4 p0 p1 p2 p3 ≤ 1000000000000000000 := by unfold max4; omega
      simp only [mnK, mxK]
      generalize min4 p0 p1 p2 p3 = mn at *
      generalize max4 p0 p1 p2 p3 = mx at *
      go_wp2_with (first | (go_at_call 47; refine (rFloor_any _ _ _ (by decide) (by omega) (by omega)).mono ?_; rintro e w' ⟨rfl, rfl⟩) | (go_at_call 48; refine (rCeil_any _ _ _ (by decide) (by omega) (by omega)).mono ?_; rintro e w' ⟨rfl, rfl⟩) | (go_at_call 36; refine (rFits_any _ _ _).mono ?_; rintro e w' ⟨rfl, rfl⟩))
      go_returns
      rw [HR.out]
      exact ⟨rfl, by go_grown⟩
end Go.Proofs.YtmkdjaafkigemaaDoor
