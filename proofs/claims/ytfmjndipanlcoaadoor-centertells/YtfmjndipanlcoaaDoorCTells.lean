/-
  The walk over 'spanlaw1.CenterTells': for all p, x it returns true.
-/
import Derived.Test.YtfmjndipanlcoaaDoorRefCenter
import Derived.Test.YtfmjndipanlcoaaDoorRefPoly
import Derived.Test.YtfmjndipanlcoaaDoorSame
namespace Go.Proofs.YtfmjndipanlcoaaDoor.CTells
set_option linter.unusedSimpArgs false
open Go.RowKit

set_option maxRecDepth 100000 in
set_option maxHeartbeats 8000000 in
theorem walk_wrong (p : List Int) (v : Value) (lo hi : Int) (w : World) (hl : Li w.heap.size w v p) (hg : HasErr w) (h : ¬ Um.over p lo hi = 0) :
    Calls Tryd.prog 6 #[v, .agg #[.int .i64 lo, .int .i64 hi]] w fun e w' => e = .returned (.bool true) ∧ Below w.heap.size w w' := by
  have v0 := errV_none
  have q1 := errG
  have q2 := errGn
  have q3 := errE
  have q4 := errN
  have HO := fun w hl => hid (rOver_any p v lo hi w hl)
  have HS := fun w hl => hid (slope_any p v lo hi w hl)
  have HC := fun w hl => hid (range_any p v lo hi w hl)
  have HB := fun w hl => hid (best_any p v lo hi w hl)
  have e1 : Um.slopeAll p lo hi = (0, 0, Um.over p lo hi) := by unfold Um.slopeAll; rw [if_neg h]
  have e2 : Um.centAll p lo hi = (0, 0, Um.over p lo hi) := by unfold Um.centAll; rw [if_neg h]
  have e3 : Um.bestAll p lo hi = (0, 0, Um.over p lo hi) := by unfold Um.bestAll; rw [if_neg h]
  rw [e1] at HS
  rw [e2] at HC
  rw [e3] at HB
  have k : (Um.over p lo hi == 0) = false := by simpa using h
  clear h e1 e2 e3
  generalize Um.over p lo hi = G at *
  have hF := (Fr.start w).push lo hi rfl
  have x0l := (hF.at 0 rfl).lo
  have x0h := (hF.at 0 rfl).hi
  obtain ⟨a0, cap0, rfl, -⟩ := (id hl)
  go_enter Tryd.func6, Tryd.ntmps6
  go_wp2_with (first | (go_at_call 26; refine (HO _ (hF.li hl)).out.mono ?_; rintro e wn ⟨rfl, hb⟩; replace hF := hF.step hb; clear hb; clear x0l x0h; replace hF := ((hF.push 0 0 rfl).push 0 0 (b := wn.heap.size + 1) (by simp)).push 0 0 (b := wn.heap.size + 1 + 1) (by simp); have x3l := (hF.at 3 rfl).lo; have x3h := (hF.at 3 rfl).hi) | (go_at_call 37; refine (HS _ (hF.li hl)).out.mono ?_; rintro e wn ⟨rfl, hb⟩; replace hF := hF.step hb; clear hb; clear x3l x3h; replace hF := hF.push 0 0 rfl; have x0l := (hF.at 0 rfl).lo; have x0h := (hF.at 0 rfl).hi; have x1l := (hF.at 1 rfl).lo; have x1h := (hF.at 1 rfl).hi; have x2l := (hF.at 2 rfl).lo; have x2h := (hF.at 2 rfl).hi; have x3l := (hF.at 3 rfl).lo; have x3h := (hF.at 3 rfl).hi; have x4l := (hF.at 4 rfl).lo; have x4h := (hF.at 4 rfl).hi) | (go_at_call 38; refine (HC _ (hF.li hl)).out.mono ?_; rintro e wn ⟨rfl, hb⟩; replace hF := hF.step hb; clear hb; clear x0l x0h x1l x1h x2l x2h x3l x3h x4l x4h; have y1 := (hF.at 0 rfl).fl; have y2 := (hF.at 0 rfl).fh; have y3 := (hF.at 0 rfl).lo; have y4 := (hF.at 0 rfl).hi; replace hF := hF.put 0 rfl 0 0 rfl; have x0l := (hF.at 0 rfl).lo; have x0h := (hF.at 0 rfl).hi; have x1l := (hF.at 1 rfl).lo; have x1h := (hF.at 1 rfl).hi; have x2l := (hF.at 2 rfl).lo; have x2h := (hF.at 2 rfl).hi; have x3l := (hF.at 3 rfl).lo; have x3h := (hF.at 3 rfl).hi; have x4l := (hF.at 4 rfl).lo; have x4h := (hF.at 4 rfl).hi) | (go_at_call 39; refine (HB _ (hF.li hl)).out.mono ?_; rintro e wn ⟨rfl, hb⟩; replace hF := hF.step hb; clear hb; clear x0l x0h x1l x1h x2l x2h x3l x3h x4l x4h; have y1 := (hF.at 0 rfl).fl; have y2 := (hF.at 0 rfl).fh; have y3 := (hF.at 0 rfl).lo; have y4 := (hF.at 0 rfl).hi; replace hF := hF.put 0 rfl 0 0 rfl; have x0l := (hF.at 0 rfl).lo; have x0h := (hF.at 0 rfl).hi; have x1l := (hF.at 1 rfl).lo; have x1h := (hF.at 1 rfl).hi; have x2l := (hF.at 2 rfl).lo; have x2h := (hF.at 2 rfl).hi; have x3l := (hF.at 3 rfl).lo; have x3h := (hF.at 3 rfl).hi; have x4l := (hF.at 4 rfl).lo; have x4h := (hF.at 4 rfl).hi) | (go_at_call 9; refine (hid (same_any _ _ _ (hg.below (B := w.heap.size) hF.below hg.size))).out.mono ?_; rintro e wn ⟨rfl, hb⟩; replace hF := hF.step hb; clear hb; clear x0l x0h x1l x1h x2l x2h x3l x3h x4l x4h; have x0l := (hF.at 0 rfl).lo; have x0h := (hF.at 0 rfl).hi; have x1l := (hF.at 1 rfl).lo; have x1h := (hF.at 1 rfl).hi; have x2l := (hF.at 2 rfl).lo; have x2h := (hF.at 2 rfl).hi; have x3l := (hF.at 3 rfl).lo; have x3h := (hF.at 3 rfl).hi; have x4l := (hF.at 4 rfl).lo; have x4h := (hF.at 4 rfl).hi))
  go_returns
  exact ⟨rfl, hF.below⟩

set_option maxRecDepth 100000 in
set_option maxHeartbeats 8000000 in
theorem walk_right (p : List Int) (v : Value) (lo hi : Int) (w : World) (hl : Li w.heap.size w v p) (hg : HasErr w) (h : Um.over p lo hi = 0) :
    Calls Tryd.prog 6 #[v, .agg #[.int .i64 lo, .int .i64 hi]] w fun e w' => e = .returned (.bool true) ∧ Below w.heap.size w w' := by
  have v0 := errV_none
  have q1 := errG
  have q2 := errGn
  have q3 := errE
  have q4 := errN
  have HO := fun w hl => hid (rOver_any p v lo hi w hl)
  have HS := fun w hl => hid (slope_any p v lo hi w hl)
  have HC := fun w hl => hid (range_any p v lo hi w hl)
  have HB := fun w hl => hid (best_any p v lo hi w hl)
  have HRS := fun w hl => hid (rSlope_any p v lo hi w hl h)
  have HRC := fun w hl => hid (rCenter_any p v lo hi w hl h)
  have HRB := fun w hl => hid (rBest_any p v lo hi w hl h)
  have e1 : Um.slopeAll p lo hi = Um.slopeR lo hi p := by unfold Um.slopeAll; rw [if_pos h]
  have e2 : Um.centAll p lo hi = Um.centR lo hi p := by unfold Um.centAll; rw [if_pos h]
  have e3 : Um.bestAll p lo hi = Um.bestR lo hi p := by unfold Um.bestAll; rw [if_pos h]
  rw [e1] at HS
  rw [e2] at HC
  rw [e3] at HB
  rw [h] at HO
  clear h e1 e2 e3
  generalize Um.slopeR lo hi p = S at *
  generalize Um.centR lo hi p = C at *
  generalize Um.bestR lo hi p = B at *
  have hF := (Fr.start w).push lo hi rfl
  have x0l := (hF.at 0 rfl).lo
  have x0h := (hF.at 0 rfl).hi
  obtain ⟨a0, cap0, rfl, -⟩ := (id hl)
  go_enter Tryd.func6, Tryd.ntmps6
  go_wp2_with (first | (go_at_call 26; refine (HO _ (hF.li hl)).out.mono ?_; rintro e wn ⟨rfl, hb⟩; replace hF := hF.step hb; clear hb; clear x0l x0h; replace hF := ((hF.push 0 0 rfl).push 0 0 (b := wn.heap.size + 1) (by simp)).push 0 0 (b := wn.heap.size + 1 + 1) (by simp); have x3l := (hF.at 3 rfl).lo; have x3h := (hF.at 3 rfl).hi) | (go_at_call 34; refine (HRS _ (hF.li hl)).out.mono ?_; rintro e wn ⟨rfl, hb⟩; replace hF := hF.step hb; clear hb; clear x3l x3h; have y1 := (hF.at 2 rfl).fl; have y2 := (hF.at 2 rfl).fh; have y3 := (hF.at 2 rfl).lo; have y4 := (hF.at 2 rfl).hi; replace hF := hF.put 2 rfl S.1 S.2.1 rfl; have x3l := (hF.at 3 rfl).lo; have x3h := (hF.at 3 rfl).hi) | (go_at_call 35; refine (HRC _ (hF.li hl)).out.mono ?_; rintro e wn ⟨rfl, hb⟩; replace hF := hF.step hb; clear hb; clear x3l x3h; have y1 := (hF.at 1 rfl).fl; have y2 := (hF.at 1 rfl).fh; have y3 := (hF.at 1 rfl).lo; have y4 := (hF.at 1 rfl).hi; replace hF := hF.put 1 rfl C.1 C.2.1 rfl; have x3l := (hF.at 3 rfl).lo; have x3h := (hF.at 3 rfl).hi) | (go_at_call 36; refine (HRB _ (hF.li hl)).out.mono ?_; rintro e wn ⟨rfl, hb⟩; replace hF := hF.step hb; clear hb; clear x3l x3h; have y1 := (hF.at 0 rfl).fl; have y2 := (hF.at 0 rfl).fh; have y3 := (hF.at 0 rfl).lo; have y4 := (hF.at 0 rfl).hi; replace hF := hF.put 0 rfl B.1 B.2.1 rfl; have x3l := (hF.at 3 rfl).lo; have x3h := (hF.at 3 rfl).hi) | (go_at_call 37; refine (HS _ (hF.li hl)).out.mono ?_; rintro e wn ⟨rfl, hb⟩; replace hF := hF.step hb; clear hb; clear x3l x3h; replace hF := hF.push S.1 S.2.1 rfl; have x0l := (hF.at 0 rfl).lo; have x0h := (hF.at 0 rfl).hi; have x1l := (hF.at 1 rfl).lo; have x1h := (hF.at 1 rfl).hi; have x2l := (hF.at 2 rfl).lo; have x2h := (hF.at 2 rfl).hi; have x3l := (hF.at 3 rfl).lo; have x3h := (hF.at 3 rfl).hi; have x4l := (hF.at 4 rfl).lo; have x4h := (hF.at 4 rfl).hi) | (go_at_call 38; refine (HC _ (hF.li hl)).out.mono ?_; rintro e wn ⟨rfl, hb⟩; replace hF := hF.step hb; clear hb; clear x0l x0h x1l x1h x2l x2h x3l x3h x4l x4h; have y1 := (hF.at 0 rfl).fl; have y2 := (hF.at 0 rfl).fh; have y3 := (hF.at 0 rfl).lo; have y4 := (hF.at 0 rfl).hi; replace hF := hF.put 0 rfl C.1 C.2.1 rfl; have x0l := (hF.at 0 rfl).lo; have x0h := (hF.at 0 rfl).hi; have x1l := (hF.at 1 rfl).lo; have x1h := (hF.at 1 rfl).hi; have x2l := (hF.at 2 rfl).lo; have x2h := (hF.at 2 rfl).hi; have x3l := (hF.at 3 rfl).lo; have x3h := (hF.at 3 rfl).hi; have x4l := (hF.at 4 rfl).lo; have x4h := (hF.at 4 rfl).hi) | (go_at_call 39; refine (HB _ (hF.li hl)).out.mono ?_; rintro e wn ⟨rfl, hb⟩; replace hF := hF.step hb; clear hb; clear x0l x0h x1l x1h x2l x2h x3l x3h x4l x4h; have y1 := (hF.at 0 rfl).fl; have y2 := (hF.at 0 rfl).fh; have y3 := (hF.at 0 rfl).lo; have y4 := (hF.at 0 rfl).hi; replace hF := hF.put 0 rfl B.1 B.2.1 rfl; have x0l := (hF.at 0 rfl).lo; have x0h := (hF.at 0 rfl).hi; have x1l := (hF.at 1 rfl).lo; have x1h := (hF.at 1 rfl).hi; have x2l := (hF.at 2 rfl).lo; have x2h := (hF.at 2 rfl).hi; have x3l := (hF.at 3 rfl).lo; have x3h := (hF.at 3 rfl).hi; have x4l := (hF.at 4 rfl).lo; have x4h := (hF.at 4 rfl).hi) | (go_at_call 9; refine (hid (same_any _ _ _ (hg.below (B := w.heap.size) hF.below hg.size))).out.mono ?_; rintro e wn ⟨rfl, hb⟩; replace hF := hF.step hb; clear hb; clear x0l x0h x1l x1h x2l x2h x3l x3h x4l x4h; have x0l := (hF.at 0 rfl).lo; have x0h := (hF.at 0 rfl).hi; have x1l := (hF.at 1 rfl).lo; have x1h := (hF.at 1 rfl).hi; have x2l := (hF.at 2 rfl).lo; have x2h := (hF.at 2 rfl).hi; have x3l := (hF.at 3 rfl).lo; have x3h := (hF.at 3 rfl).hi; have x4l := (hF.at 4 rfl).lo; have x4h := (hF.at 4 rfl).hi))
  go_returns
  exact ⟨rfl, hF.below⟩

theorem walk (p : List Int) (v : Value) (lo hi : Int) (w : World) (hg : HasErr w) (hl : Li w.heap.size w v p) :
    Calls Tryd.prog 6 #[v, .agg #[.int .i64 lo, .int .i64 hi]] w fun e w' => e = .returned (.bool true) ∧ Below w.heap.size w w' := by
  by_cases h : Um.over p lo hi = 0
  · exact walk_right p v lo hi w hl hg h
  · exact walk_wrong p v lo hi w hl hg h
end Go.Proofs.YtfmjndipanlcoaaDoor.CTells
