/-
  What the document's answer (package spanref1) to By of two spans is: error 8 if 0 is in the second; else of all four quotients the least one rounded down and the greatest one rounded up, if both may be.
-/
import Derived.Test.YtfmjndipanlcoaaDoorRefTimes
namespace Go.Proofs.YtfmjndipanlcoaaDoor
set_option linter.unusedSimpArgs false
open Go.RowKit

def lK (f0 f1 f2 f3 : Int) : Nat → Int
  | 0 => 0
  | 1 => f0
  | 2 => min f0 f1
  | 3 => min (min f0 f1) f2
  | _ => min4 f0 f1 f2 f3
def hK (f0 f1 f2 f3 : Int) : Nat → Int
  | 0 => 0
  | 1 => f0
  | 2 => max f0 f1
  | 3 => max (max f0 f1) f2
  | _ => max4 f0 f1 f2 f3

/-- By of two spans: 0 is not in the second. -/
def spanByR (al ah bl bh : Int) : Int × Int × Int :=
  fitR (min4 (Um.fl (al * 1000) bl) (Um.fl (al * 1000) bh) (Um.fl (ah * 1000) bl) (Um.fl (ah * 1000) bh)) (max4 (Um.ce (al * 1000) bl) (Um.ce (al * 1000) bh) (Um.ce (ah * 1000) bl) (Um.ce (ah * 1000) bh))

theorem rBy_zero (al ah bl bh : Int) (w : World) (hz : bl ≤ 0) (hz2 : 0 ≤ bh) :
    Calls Tryd.prog 15 #[.agg #[.int .i64 al, .int .i64 ah], .agg #[.int .i64 bl, .int .i64 bh]] w fun e w' => e = .returned (.tuple #[.agg #[.int .i64 0, .int .i64 0], .int .i64 8]) ∧ Below w.heap.size w w' := by
  have g : (decide (bl ≤ 0) && decide (0 ≤ bh)) = true := by simp [hz, hz2]
  clear hz hz2
  go_enter Tryd.func15, Tryd.ntmps15
  go_wp2_with (go_at_call 50; refine (rZero_any _ _ _).mono ?_; rintro e w' ⟨rfl, rfl⟩)
  go_returns
  exact ⟨rfl, by go_grown⟩

theorem wspan {W : World} {a b c d : Int} {T : TypeId} (h1 : a = c) (h2 : b = d) : W.alloc (.cells #[.int .i64 a, .int .i64 b] T) = W.alloc (.cells #[.int .i64 c, .int .i64 d] T) := by rw [h1, h2]

set_option maxRecDepth 100000 in
set_option maxHeartbeats 4000000 in
theorem rBy_pos (al ah bl bh : Int) (w : World) (h1 : Um.may al = true) (h2 : Um.may ah = true) (h3 : 0 < bl) (h4 : 0 < bh) :
    Calls Tryd.prog 15 #[.agg #[.int .i64 al, .int .i64 ah], .agg #[.int .i64 bl, .int .i64 bh]] w fun e w' => e = .returned (.tuple #[.agg #[.int .i64 (spanByR al ah bl bh).1, .int .i64 (spanByR al ah bl bh).2.1], .int .i64 (spanByR al ah bl bh).2.2]) ∧ Below w.heap.size w w' := by
  obtain ⟨a1, a2⟩ := (Um.may_iff al).1 h1
  obtain ⟨a3, a4⟩ := (Um.may_iff ah).1 h2
  have g : (decide (bl ≤ 0) && decide (0 ≤ bh)) = false := by
    have : ¬ bl ≤ 0 := by omega
    simp [this]
  have HR : Hid (spanByR al ah bl bh = fitR (min4 (Um.fl (al * 1000) bl) (Um.fl (al * 1000) bh) (Um.fl (ah * 1000) bl) (Um.fl (ah * 1000) bh)) (max4 (Um.ce (al * 1000) bl) (Um.ce (al * 1000) bh) (Um.ce (ah * 1000) bl) (Um.ce (ah * 1000) bh))) := rfl
  generalize spanByR al ah bl bh = R at *
  clear h1 h2
  have F0 := fun w => hid (rFloor_any (1000 * al) bl w h3 (by omega) (by omega))
  have F1 := fun w => hid (rFloor_any (1000 * al) bh w h4 (by omega) (by omega))
  have F2 := fun w => hid (rFloor_any (1000 * ah) bl w h3 (by omega) (by omega))
  have F3 := fun w => hid (rFloor_any (1000 * ah) bh w h4 (by omega) (by omega))
  have C0 := fun w => hid (rCeil_any (1000 * al) bl w h3 (by omega) (by omega))
  have C1 := fun w => hid (rCeil_any (1000 * al) bh w h4 (by omega) (by omega))
  have C2 := fun w => hid (rCeil_any (1000 * ah) bl w h3 (by omega) (by omega))
  have C3 := fun w => hid (rCeil_any (1000 * ah) bh w h4 (by omega) (by omega))
  rw [Int.mul_comm al 1000, Int.mul_comm ah 1000] at HR
  generalize Um.fl (1000 * al) bl = f0 at *
  generalize Um.fl (1000 * al) bh = f1 at *
  generalize Um.fl (1000 * ah) bl = f2 at *
  generalize Um.fl (1000 * ah) bh = f3 at *
  generalize Um.ce (1000 * al) bl = c0 at *
  generalize Um.ce (1000 * al) bh = c1 at *
  generalize Um.ce (1000 * ah) bl = c2 at *
  generalize Um.ce (1000 * ah) bh = c3 at *
  go_enter Tryd.func15, Tryd.ntmps15
  go_wp2_with (go_at_call 50; refine (rZero_any _ _ _).mono ?_; rintro e w' ⟨rfl, rfl⟩)
  clear g
  go_loopw [10] (fun i wr => ∃ k : Nat, k ≤ 4 ∧ i = .int .i64 k ∧ wr = ((((((w.alloc (.cells #[.int .i64 al, .int .i64 ah] 23)).alloc (.cells #[.int .i64 bl, .int .i64 bh] 23)).alloc (.cells #[.int .i64 0, .int .i64 0] 23)).alloc (.cells #[.int .i64 bl, .int .i64 bh] 23)).alloc (.cells #[.int .i64 al, .int .i64 al, .int .i64 ah, .int .i64 ah] 3)).alloc (.cells #[.int .i64 bl, .int .i64 bh, .int .i64 bl, .int .i64 bh] 3)).alloc (.cells #[.int .i64 (lK f0 f1 f2 f3 k), .int .i64 (hK c0 c1 c2 c3 k)] 23)) (fun i _ => 4 - (intOf i).toNat)
  case atStart => exact ⟨0, by omega, rfl, rfl⟩
  case round =>
    obtain ⟨k, hk4, rfl, rfl⟩ := hrel
    rcases (by omega : k = 0 ∨ k = 1 ∨ k = 2 ∨ k = 3 ∨ k = 4) with rfl | rfl | rfl | rfl | rfl
    · simp only [lK, hK]
      go_wp2_with (first | (go_at_call 48; refine (F0 _).out.mono ?_; rintro e w' ⟨rfl, rfl⟩) | (go_at_call 49; refine (C0 _).out.mono ?_; rintro e w' ⟨rfl, rfl⟩))
      exact ⟨⟨1, by omega, rfl, rfl⟩, by simp [intOf]⟩
    · simp only [lK, hK]
      go_wp2_with (first | (go_at_call 48; refine (F1 _).out.mono ?_; rintro e w' ⟨rfl, rfl⟩) | (go_at_call 49; refine (C1 _).out.mono ?_; rintro e w' ⟨rfl, rfl⟩))
      all_goals exact ⟨⟨2, by omega, rfl, wspan (by simp only [lK, min4]; omega) (by simp only [hK, max4]; omega)⟩, by simp [intOf]⟩
    · simp only [lK, hK]
      generalize hm : min f0 f1 = mn at *
      generalize hM : max c0 c1 = mx at *
      have Hm := hid hm
      have HM := hid hM
      clear hm hM
      go_wp2_with (first | (go_at_call 48; refine (F2 _).out.mono ?_; rintro e w' ⟨rfl, rfl⟩) | (go_at_call 49; refine (C2 _).out.mono ?_; rintro e w' ⟨rfl, rfl⟩))
      all_goals exact ⟨⟨3, by omega, rfl, wspan (by simp only [lK, min4]; (try rw [Hm.out]); omega) (by simp only [hK, max4]; (try rw [HM.out]); omega)⟩, by simp [intOf]⟩
    · simp only [lK, hK]
      generalize hm : min (min f0 f1) f2 = mn at *
      generalize hM : max (max c0 c1) c2 = mx at *
      have Hm := hid hm
      have HM := hid hM
      clear hm hM
      go_wp2_with (first | (go_at_call 48; refine (F3 _).out.mono ?_; rintro e w' ⟨rfl, rfl⟩) | (go_at_call 49; refine (C3 _).out.mono ?_; rintro e w' ⟨rfl, rfl⟩))
      all_goals exact ⟨⟨4, by omega, rfl, wspan (by simp only [lK, min4]; (try rw [Hm.out]); omega) (by simp only [hK, max4]; (try rw [HM.out]); omega)⟩, by simp [intOf]⟩
    · simp only [lK, hK]
      generalize min4 f0 f1 f2 f3 = mn at *
      generalize max4 c0 c1 c2 c3 = mx at *
      go_wp2_with (go_at_call 47; refine (rFits_any _ _ _).mono ?_; rintro e w' ⟨rfl, rfl⟩)
      go_returns
      rw [HR.out]
      exact ⟨rfl, by go_grown⟩
theorem fl_flip (n : Int) {d : Int} (h : d < 0) : Um.fl n d = Um.fl (-n) (-d) := by rw [Um.fl_neg h, Um.fl_pos (by omega)]
theorem ce_flip (n : Int) {d : Int} (h : d < 0) : Um.ce n d = Um.ce (-n) (-d) := by rw [Um.ce_neg h, Um.ce_pos (by omega), Int.neg_neg]

set_option maxRecDepth 100000 in
set_option maxHeartbeats 4000000 in
theorem rBy_neg (al ah bl bh : Int) (w : World) (h1 : Um.may al = true) (h2 : Um.may ah = true) (h3 : bl < 0) (h4 : bh < 0) (h5 : -1000000000 ≤ bl) (h6 : -1000000000 ≤ bh) :
    Calls Tryd.prog 15 #[.agg #[.int .i64 al, .int .i64 ah], .agg #[.int .i64 bl, .int .i64 bh]] w fun e w' => e = .returned (.tuple #[.agg #[.int .i64 (spanByR al ah bl bh).1, .int .i64 (spanByR al ah bl bh).2.1], .int .i64 (spanByR al ah bl bh).2.2]) ∧ Below w.heap.size w w' := by
  obtain ⟨a1, a2⟩ := (Um.may_iff al).1 h1
  obtain ⟨a3, a4⟩ := (Um.may_iff ah).1 h2
  have g : (decide (bl ≤ 0) && decide (0 ≤ bh)) = false := by
    have : ¬ 0 ≤ bh := by omega
    simp [this]
  have HR : Hid (spanByR al ah bl bh = fitR (min4 (Um.fl (al * 1000) bl) (Um.fl (al * 1000) bh) (Um.fl (ah * 1000) bl) (Um.fl (ah * 1000) bh)) (max4 (Um.ce (al * 1000) bl) (Um.ce (al * 1000) bh) (Um.ce (ah * 1000) bl) (Um.ce (ah * 1000) bh))) := rfl
  generalize spanByR al ah bl bh = R at *
  clear h1 h2
  have F0 := fun w => hid (rFloor_any (-(1000 * al)) (-bl) w (by omega) (by omega) (by omega))
  have F1 := fun w => hid (rFloor_any (-(1000 * al)) (-bh) w (by omega) (by omega) (by omega))
  have F2 := fun w => hid (rFloor_any (-(1000 * ah)) (-bl) w (by omega) (by omega) (by omega))
  have F3 := fun w => hid (rFloor_any (-(1000 * ah)) (-bh) w (by omega) (by omega) (by omega))
  have C0 := fun w => hid (rCeil_any (-(1000 * al)) (-bl) w (by omega) (by omega) (by omega))
  have C1 := fun w => hid (rCeil_any (-(1000 * al)) (-bh) w (by omega) (by omega) (by omega))
  have C2 := fun w => hid (rCeil_any (-(1000 * ah)) (-bl) w (by omega) (by omega) (by omega))
  have C3 := fun w => hid (rCeil_any (-(1000 * ah)) (-bh) w (by omega) (by omega) (by omega))
  rw [Int.mul_comm al 1000, Int.mul_comm ah 1000, fl_flip _ h3, fl_flip _ h4, fl_flip _ h3, fl_flip _ h4, ce_flip _ h3, ce_flip _ h4, ce_flip _ h3, ce_flip _ h4] at HR
  generalize Um.fl (-(1000 * al)) (-bl) = f0 at *
  generalize Um.fl (-(1000 * al)) (-bh) = f1 at *
  generalize Um.fl (-(1000 * ah)) (-bl) = f2 at *
  generalize Um.fl (-(1000 * ah)) (-bh) = f3 at *
  generalize Um.ce (-(1000 * al)) (-bl) = c0 at *
  generalize Um.ce (-(1000 * al)) (-bh) = c1 at *
  generalize Um.ce (-(1000 * ah)) (-bl) = c2 at *
  generalize Um.ce (-(1000 * ah)) (-bh) = c3 at *
  go_enter Tryd.func15, Tryd.ntmps15
  go_wp2_with (go_at_call 50; refine (rZero_any _ _ _).mono ?_; rintro e w' ⟨rfl, rfl⟩)
  clear g
  go_loopw [10] (fun i wr => ∃ k : Nat, k ≤ 4 ∧ i = .int .i64 k ∧ wr = ((((((w.alloc (.cells #[.int .i64 al, .int .i64 ah] 23)).alloc (.cells #[.int .i64 bl, .int .i64 bh] 23)).alloc (.cells #[.int .i64 0, .int .i64 0] 23)).alloc (.cells #[.int .i64 bl, .int .i64 bh] 23)).alloc (.cells #[.int .i64 al, .int .i64 al, .int .i64 ah, .int .i64 ah] 3)).alloc (.cells #[.int .i64 bl, .int .i64 bh, .int .i64 bl, .int .i64 bh] 3)).alloc (.cells #[.int .i64 (lK f0 f1 f2 f3 k), .int .i64 (hK c0 c1 c2 c3 k)] 23)) (fun i _ => 4 - (intOf i).toNat)
  case atStart => exact ⟨0, by omega, rfl, rfl⟩
  case round =>
    obtain ⟨k, hk4, rfl, rfl⟩ := hrel
    rcases (by omega : k = 0 ∨ k = 1 ∨ k = 2 ∨ k = 3 ∨ k = 4) with rfl | rfl | rfl | rfl | rfl
    · simp only [lK, hK]
      go_wp2_with (first | (go_at_call 48; refine (F0 _).out.mono ?_; rintro e w' ⟨rfl, rfl⟩) | (go_at_call 49; refine (C0 _).out.mono ?_; rintro e w' ⟨rfl, rfl⟩))
      exact ⟨⟨1, by omega, rfl, rfl⟩, by simp [intOf]⟩
    · simp only [lK, hK]
      go_wp2_with (first | (go_at_call 48; refine (F1 _).out.mono ?_; rintro e w' ⟨rfl, rfl⟩) | (go_at_call 49; refine (C1 _).out.mono ?_; rintro e w' ⟨rfl, rfl⟩))
      all_goals exact ⟨⟨2, by omega, rfl, wspan (by simp only [lK, min4]; omega) (by simp only [hK, max4]; omega)⟩, by simp [intOf]⟩
    · simp only [lK, hK]
      generalize hm : min f0 f1 = mn at *
      generalize hM : max c0 c1 = mx at *
      have Hm := hid hm
      have HM := hid hM
      clear hm hM
      go_wp2_with (first | (go_at_call 48; refine (F2 _).out.mono ?_; rintro e w' ⟨rfl, rfl⟩) | (go_at_call 49; refine (C2 _).out.mono ?_; rintro e w' ⟨rfl, rfl⟩))
      all_goals exact ⟨⟨3, by omega, rfl, wspan (by simp only [lK, min4]; (try rw [Hm.out]); omega) (by simp only [hK, max4]; (try rw [HM.out]); omega)⟩, by simp [intOf]⟩
    · simp only [lK, hK]
      generalize hm : min (min f0 f1) f2 = mn at *
      generalize hM : max (max c0 c1) c2 = mx at *
      have Hm := hid hm
      have HM := hid hM
      clear hm hM
      go_wp2_with (first | (go_at_call 48; refine (F3 _).out.mono ?_; rintro e w' ⟨rfl, rfl⟩) | (go_at_call 49; refine (C3 _).out.mono ?_; rintro e w' ⟨rfl, rfl⟩))
      all_goals exact ⟨⟨4, by omega, rfl, wspan (by simp only [lK, min4]; (try rw [Hm.out]); omega) (by simp only [hK, max4]; (try rw [HM.out]); omega)⟩, by simp [intOf]⟩
    · simp only [lK, hK]
      generalize min4 f0 f1 f2 f3 = mn at *
      generalize max4 c0 c1 c2 c3 = mx at *
      go_wp2_with (go_at_call 47; refine (rFits_any _ _ _).mono ?_; rintro e w' ⟨rfl, rfl⟩)
      go_returns
      rw [HR.out]
      exact ⟨rfl, by go_grown⟩

/-- By of two spans that are right; the fault. -/
def spanByAll (al ah bl bh : Int) : Int × Int × Int := if bl ≤ 0 ∧ 0 ≤ bh then (0, 0, 8) else spanByR al ah bl bh
theorem rBy_any (al ah bl bh : Int) (w : World) (h1 : Um.may al = true) (h2 : Um.may ah = true) (h5 : Um.may bl = true) (hb : bl ≤ bh) :
    Calls Tryd.prog 15 #[.agg #[.int .i64 al, .int .i64 ah], .agg #[.int .i64 bl, .int .i64 bh]] w fun e w' => e = .returned (.tuple #[.agg #[.int .i64 (spanByAll al ah bl bh).1, .int .i64 (spanByAll al ah bl bh).2.1], .int .i64 (spanByAll al ah bl bh).2.2]) ∧ Below w.heap.size w w' := by
  unfold spanByAll
  by_cases hz : bl ≤ 0 ∧ 0 ≤ bh
  · rw [if_pos hz]; exact rBy_zero al ah bl bh w hz.1 hz.2
  · rw [if_neg hz]
    rcases (by omega : 0 < bl ∨ bh < 0) with h | h
    · exact rBy_pos al ah bl bh w h1 h2 h (by omega)
    · exact rBy_neg al ah bl bh w h1 h2 (by omega) h ((Um.may_iff bl).1 h5).1 (by have := ((Um.may_iff bl).1 h5).1; omega)
end Go.Proofs.YtfmjndipanlcoaaDoor
