/-
  The walk over 'spanlaw1.MonoTells': for all p, x it returns true.
-/
import Derived.Test.YtfmjndipanlcoaaDoorRefMono
import Derived.Test.YtfmjndipanlcoaaDoorRefPoly
import Derived.Test.YtfmjndipanlcoaaDoorSame
namespace Go.Proofs.YtfmjndipanlcoaaDoor.MTells
set_option linter.unusedSimpArgs false
open Go.RowKit

set_option maxRecDepth 100000 in
set_option maxHeartbeats 8000000 in
theorem walk_wrong (p : List Int) (v : Value) (lo hi : Int) (w : World) (hl : Li w.heap.size w v p) (hg : HasErr w) (h : ¬ Um.over p lo hi = 0) :
    Calls Tryd.prog 7 #[v, .agg #[.int .i64 lo, .int .i64 hi]] w fun e w' => e = .returned (.bool true) ∧ Below w.heap.size w w' := by
  have v0 := errV_none
  have q1 := errG
  have q2 := errGn
  have q3 := errE
  have q4 := errN
  have HO := fun w hl => hid (rOver_any p v lo hi w hl)
  have HW := fun w hl => hid (way_any p v lo hi w hl)
  have HM := fun w hl => hid (mrange_any p v lo hi w hl)
  have e0 : Um.slopeAll p lo hi = (0, 0, Um.over p lo hi) := by unfold Um.slopeAll; rw [if_neg h]
  have e1 : Um.wayAll p lo hi = (0, Um.over p lo hi) := by unfold Um.wayAll; rw [e0, if_neg h]
  have e2 : Um.monoAll p lo hi = (0, 0, Um.over p lo hi) := by unfold Um.monoAll; rw [if_neg h]
  rw [e1] at HW
  rw [e2] at HM
  have k : (Um.over p lo hi == 0) = false := by simpa using h
  clear h e0 e1 e2
  generalize Um.over p lo hi = G at *
  have hF := (Fr.start w).push lo hi rfl
  have x0l := (hF.at 0 rfl).lo
  have x0h := (hF.at 0 rfl).hi
  obtain ⟨a0, cap0, rfl, -⟩ := (id hl)
  go_enter Tryd.func7, Tryd.ntmps7
  go_wp2_with (first | (go_at_call 26; refine (HO _ (hF.li hl)).out.mono ?_; rintro e wn ⟨rfl, hb⟩; replace hF := hF.step hb; clear hb; clear x0l x0h; replace hF := hF.push 0 0 rfl; have x1l := (hF.at 1 rfl).lo; have x1h := (hF.at 1 rfl).hi) | (go_at_call 42; refine (HW _ (hF.li hl)).out.mono ?_; rintro e wn ⟨rfl, hb⟩; replace hF := hF.step hb; clear hb; clear x1l x1h; have x1l := (hF.at 1 rfl).lo; have x1h := (hF.at 1 rfl).hi) | (go_at_call 43; refine (HM _ (hF.li hl)).out.mono ?_; rintro e wn ⟨rfl, hb⟩; replace hF := hF.step hb; clear hb; clear x1l x1h; replace hF := hF.push 0 0 rfl; have x0l := (hF.at 0 rfl).lo; have x0h := (hF.at 0 rfl).hi; have x1l := (hF.at 1 rfl).lo; have x1h := (hF.at 1 rfl).hi; have x2l := (hF.at 2 rfl).lo; have x2h := (hF.at 2 rfl).hi) | (go_at_call 9; refine (same_any _ _ _ (hg.below (B := w.heap.size) hF.below hg.size)).mono ?_; rintro e wn ⟨rfl, hb⟩; replace hF := hF.step hb; clear hb; first | (clear x0l x0h x1l x1h x2l x2h; have x0l := (hF.at 0 rfl).lo; have x0h := (hF.at 0 rfl).hi; have x1l := (hF.at 1 rfl).lo; have x1h := (hF.at 1 rfl).hi; have x2l := (hF.at 2 rfl).lo; have x2h := (hF.at 2 rfl).hi) | (clear x1l x1h; have x1l := (hF.at 1 rfl).lo; have x1h := (hF.at 1 rfl).hi)))
  go_returns
  exact ⟨rfl, hF.below⟩

set_option maxRecDepth 100000 in
set_option maxHeartbeats 8000000 in
theorem walk_steep (p : List Int) (v : Value) (lo hi : Int) (w : World) (hl : Li w.heap.size w v p) (hg : HasErr w) (h : Um.over p lo hi = 0) (hs : ¬ (Um.slopeR lo hi p).2.2 = 0) :
    Calls Tryd.prog 7 #[v, .agg #[.int .i64 lo, .int .i64 hi]] w fun e w' => e = .returned (.bool true) ∧ Below w.heap.size w w' := by
  have v0 := errV_none
  have q1 := errG
  have q2 := errGn
  have q3 := errE
  have q4 := errN
  have HO := fun w hl => hid (rOver_any p v lo hi w hl)
  have HW := fun w hl => hid (way_any p v lo hi w hl)
  have HM := fun w hl => hid (mrange_any p v lo hi w hl)
  have HRS := fun w hl => hid (rSlope_any p v lo hi w hl h)
  have HRR := fun w hl => hid (rRange_any p v lo hi w hl h)
  have e0 : Um.slopeAll p lo hi = Um.slopeR lo hi p := by unfold Um.slopeAll; rw [if_pos h]
  have e2 : Um.monoAll p lo hi = Um.monoR lo hi p := by unfold Um.monoAll; rw [if_pos h]
  rw [e2] at HM
  rw [h] at HO
  have e1 : Um.wayAll p lo hi = (0, (Um.slopeR lo hi p).2.2) := by unfold Um.wayAll; rw [e0, if_neg hs]
  rw [e1] at HW
  have k : ((Um.slopeR lo hi p).2.2 == 0) = false := by simpa using hs
  clear h hs e0 e1 e2
  generalize Um.slopeR lo hi p = S at *
  generalize Um.monoR lo hi p = M at *
  have hF := (Fr.start w).push lo hi rfl
  have x0l := (hF.at 0 rfl).lo
  have x0h := (hF.at 0 rfl).hi
  obtain ⟨a0, cap0, rfl, -⟩ := (id hl)
  go_enter Tryd.func7, Tryd.ntmps7
  go_wp2_with (first | (go_at_call 26; refine (HO _ (hF.li hl)).out.mono ?_; rintro e wn ⟨rfl, hb⟩; replace hF := hF.step hb; clear hb; clear x0l x0h; replace hF := hF.push 0 0 rfl; have x1l := (hF.at 1 rfl).lo; have x1h := (hF.at 1 rfl).hi) | (go_at_call 34; refine (HRS _ (hF.li hl)).out.mono ?_; rintro e wn ⟨rfl, hb⟩; replace hF := hF.step hb; clear hb; clear x1l x1h; replace hF := hF.push S.1 S.2.1 rfl; have x2l := (hF.at 2 rfl).lo; have x2h := (hF.at 2 rfl).hi) | (go_at_call 41; refine (HRR _ (hF.li hl)).out.mono ?_; rintro e wn ⟨rfl, hb⟩; replace hF := hF.step hb; clear hb; clear x2l x2h; have y1 := (hF.at 1 rfl).fl; have y2 := (hF.at 1 rfl).fh; have y3 := (hF.at 1 rfl).lo; have y4 := (hF.at 1 rfl).hi; replace hF := hF.put 1 rfl M.1 M.2.1 rfl; have x2l := (hF.at 2 rfl).lo; have x2h := (hF.at 2 rfl).hi) | (go_at_call 42; refine (HW _ (hF.li hl)).out.mono ?_; rintro e wn ⟨rfl, hb⟩; replace hF := hF.step hb; clear hb; clear x2l x2h; have x2l := (hF.at 2 rfl).lo; have x2h := (hF.at 2 rfl).hi) | (go_at_call 43; refine (HM _ (hF.li hl)).out.mono ?_; rintro e wn ⟨rfl, hb⟩; replace hF := hF.step hb; clear hb; clear x2l x2h; replace hF := hF.push M.1 M.2.1 rfl; have x0l := (hF.at 0 rfl).lo; have x0h := (hF.at 0 rfl).hi; have x2l := (hF.at 2 rfl).lo; have x2h := (hF.at 2 rfl).hi; have x3l := (hF.at 3 rfl).lo; have x3h := (hF.at 3 rfl).hi) | (go_at_call 9; refine (same_any _ _ _ (hg.below (B := w.heap.size) hF.below hg.size)).mono ?_; rintro e wn ⟨rfl, hb⟩; replace hF := hF.step hb; clear hb; first | (clear x0l x0h x2l x2h x3l x3h; have x0l := (hF.at 0 rfl).lo; have x0h := (hF.at 0 rfl).hi; have x2l := (hF.at 2 rfl).lo; have x2h := (hF.at 2 rfl).hi; have x3l := (hF.at 3 rfl).lo; have x3h := (hF.at 3 rfl).hi) | (clear x2l x2h; have x2l := (hF.at 2 rfl).lo; have x2h := (hF.at 2 rfl).hi)))
  go_returns
  exact ⟨rfl, hF.below⟩

set_option maxRecDepth 100000 in
set_option maxHeartbeats 8000000 in
theorem walk_right (p : List Int) (v : Value) (lo hi : Int) (w : World) (hl : Li w.heap.size w v p) (hg : HasErr w) (h : Um.over p lo hi = 0) (hs : (Um.slopeR lo hi p).2.2 = 0) :
    Calls Tryd.prog 7 #[v, .agg #[.int .i64 lo, .int .i64 hi]] w fun e w' => e = .returned (.bool true) ∧ Below w.heap.size w w' := by
  have v0 := errV_none
  have q1 := errG
  have q2 := errGn
  have q3 := errE
  have q4 := errN
  have HO := fun w hl => hid (rOver_any p v lo hi w hl)
  have HW := fun w hl => hid (way_any p v lo hi w hl)
  have HM := fun w hl => hid (mrange_any p v lo hi w hl)
  have HRS := fun w hl => hid (rSlope_any p v lo hi w hl h)
  have HRR := fun w hl => hid (rRange_any p v lo hi w hl h)
  have e0 : Um.slopeAll p lo hi = Um.slopeR lo hi p := by unfold Um.slopeAll; rw [if_pos h]
  have e2 : Um.monoAll p lo hi = Um.monoR lo hi p := by unfold Um.monoAll; rw [if_pos h]
  rw [e2] at HM
  rw [h] at HO
  have e1 : Um.wayAll p lo hi = (Um.wayR (Um.slopeR lo hi p).1 (Um.slopeR lo hi p).2.1, (Um.slopeR lo hi p).2.2) := by unfold Um.wayAll; rw [e0, if_pos hs, hs]
  rw [e1] at HW
  have HRW := fun w => hid (rWay_any (Um.slopeR lo hi p).1 (Um.slopeR lo hi p).2.1 w)
  have k : ((Um.slopeR lo hi p).2.2 == 0) = true := by simpa using hs
  clear h hs e0 e1 e2
  generalize Um.wayR (Um.slopeR lo hi p).1 (Um.slopeR lo hi p).2.1 = V at *
  generalize Um.slopeR lo hi p = S at *
  generalize Um.monoR lo hi p = M at *
  have hF := (Fr.start w).push lo hi rfl
  have x0l := (hF.at 0 rfl).lo
  have x0h := (hF.at 0 rfl).hi
  obtain ⟨a0, cap0, rfl, -⟩ := (id hl)
  go_enter Tryd.func7, Tryd.ntmps7
  go_wp2_with (first | (go_at_call 26; refine (HO _ (hF.li hl)).out.mono ?_; rintro e wn ⟨rfl, hb⟩; replace hF := hF.step hb; clear hb; clear x0l x0h; replace hF := hF.push 0 0 rfl; have x1l := (hF.at 1 rfl).lo; have x1h := (hF.at 1 rfl).hi) | (go_at_call 34; refine (HRS _ (hF.li hl)).out.mono ?_; rintro e wn ⟨rfl, hb⟩; replace hF := hF.step hb; clear hb; clear x1l x1h; replace hF := hF.push S.1 S.2.1 rfl; have x0l := (hF.at 0 rfl).lo; have x0h := (hF.at 0 rfl).hi; have x2l := (hF.at 2 rfl).lo; have x2h := (hF.at 2 rfl).hi) | (go_at_call 40; refine (HRW _).out.mono ?_; rintro e wn ⟨rfl, hb⟩; replace hF := hF.step hb; clear hb; clear x0l x0h x2l x2h; have x2l := (hF.at 2 rfl).lo; have x2h := (hF.at 2 rfl).hi) | (go_at_call 41; refine (HRR _ (hF.li hl)).out.mono ?_; rintro e wn ⟨rfl, hb⟩; replace hF := hF.step hb; clear hb; clear x2l x2h; have y1 := (hF.at 1 rfl).fl; have y2 := (hF.at 1 rfl).fh; have y3 := (hF.at 1 rfl).lo; have y4 := (hF.at 1 rfl).hi; replace hF := hF.put 1 rfl M.1 M.2.1 rfl; have x2l := (hF.at 2 rfl).lo; have x2h := (hF.at 2 rfl).hi) | (go_at_call 42; refine (HW _ (hF.li hl)).out.mono ?_; rintro e wn ⟨rfl, hb⟩; replace hF := hF.step hb; clear hb; clear x2l x2h; have x2l := (hF.at 2 rfl).lo; have x2h := (hF.at 2 rfl).hi) | (go_at_call 43; refine (HM _ (hF.li hl)).out.mono ?_; rintro e wn ⟨rfl, hb⟩; replace hF := hF.step hb; clear hb; clear x2l x2h; replace hF := hF.push M.1 M.2.1 rfl; have x0l := (hF.at 0 rfl).lo; have x0h := (hF.at 0 rfl).hi; have x2l := (hF.at 2 rfl).lo; have x2h := (hF.at 2 rfl).hi; have x3l := (hF.at 3 rfl).lo; have x3h := (hF.at 3 rfl).hi) | (go_at_call 9; refine (same_any _ _ _ (hg.below (B := w.heap.size) hF.below hg.size)).mono ?_; rintro e wn ⟨rfl, hb⟩; replace hF := hF.step hb; clear hb; first | (clear x0l x0h x2l x2h x3l x3h; have x0l := (hF.at 0 rfl).lo; have x0h := (hF.at 0 rfl).hi; have x2l := (hF.at 2 rfl).lo; have x2h := (hF.at 2 rfl).hi; have x3l := (hF.at 3 rfl).lo; have x3h := (hF.at 3 rfl).hi) | (clear x2l x2h; have x2l := (hF.at 2 rfl).lo; have x2h := (hF.at 2 rfl).hi)))
  go_returns
  exact ⟨rfl, hF.below⟩

theorem walk (p : List Int) (v : Value) (lo hi : Int) (w : World) (hg : HasErr w) (hl : Li w.heap.size w v p) :
    Calls Tryd.prog 7 #[v, .agg #[.int .i64 lo, .int .i64 hi]] w fun e w' => e = .returned (.bool true) ∧ Below w.heap.size w w' := by
  by_cases h : Um.over p lo hi = 0
  · by_cases hs : (Um.slopeR lo hi p).2.2 = 0
    · exact walk_right p v lo hi w hl hg h hs
    · exact walk_steep p v lo hi w hl hg h hs
  · exact walk_wrong p v lo hi w hl hg h
end Go.Proofs.YtfmjndipanlcoaaDoor.MTells
