/-
  The walk over 'spanlaw2.SafeTells': for all s, b, bad, steps it returns true.
-/
import Derived.Test.YtkeoafbkbblnaaaDoorSafe
import Derived.Test.YtkeoafbkbblnaaaDoorRefRun
import Derived.Test.YtkeoafbkbblnaaaDoorRefBox
import Derived.Test.YtkeoafbkbblnaaaDoorSame
import Derived.LoopTactic
import Derived.Deep.CutRange
namespace Go.Proofs.YtkeoafbkbblnaaaDoor.SfTells
set_option linter.unusedSimpArgs false
open Go.RowKit

set_option maxRecDepth 100000 in
set_option maxHeartbeats 16000000 in
theorem walk_bad (s : List (List Um.Tm)) (v0 : Value) (p : List (Int × Int)) (v1 : Value) (b : List (Int × Int)) (v : Value) (d : List (Int × Int)) (t : Value) (n : Int) (w : World) (hg : HasErr w) (hf : Lf w.heap.size w v0 s) (hp : Ls w.heap.size w v1 p) (hs : Ls w.heap.size w v b) (hd : Ls w.heap.size w t d) (h : ¬ Um.boxF d = 0) :
    Calls Tryd.prog 5 #[.agg #[v0, v1], v, t, .int .i64 n] w fun e w' => e = .returned (.bool true) ∧ Below w.heap.size w w' := by
  have v0 := errV_none
  have q1 := errG
  have q2 := errGn
  have q3 := errE
  have q4 := errN
  obtain ⟨a0, cap0, rfl, -⟩ := (id hf)
  obtain ⟨a1, cap1, rfl, -⟩ := (id hp)
  obtain ⟨a2, cap2, rfl, -⟩ := (id hs)
  obtain ⟨a3, cap3, rfl, -⟩ := (id hd)
  have h1 : w.heap.size < (w.alloc (.cells #[.slice a0 s.length cap0, .slice a1 p.length cap1] 25)).heap.size := by simp
  have hBW : Below w.heap.size w (w.alloc (.cells #[.slice a0 s.length cap0, .slice a1 p.length cap1] 25)) := by go_grown
  obtain ⟨c0, c1⟩ := sys_cells w (.slice a0 s.length cap0) (.slice a1 p.length cap1) 25
  have hF := Fr.start (w.alloc (.cells #[.slice a0 s.length cap0, .slice a1 p.length cap1] 25))
  have hf2 := hf.step hBW
  have hp2 := hp.step hBW
  have hb2 := hs.step hBW
  have hd2 := hd.step hBW
  have HBX := fun w h1 => hid (rBox_any d (.slice a3 d.length cap3) w h1)
  have HRR := fun w h1 h2 h3 => hid (rRun_any s (.slice a0 s.length cap0) p (.slice a1 p.length cap1) b (.slice a2 b.length cap2) n w h1 h2 h3)
  have HWH := fun w h1 h2 h3 h4 => hid (sfWhen_any s (.slice a0 s.length cap0) p (.slice a1 p.length cap1) b (.slice a2 b.length cap2) d (.slice a3 d.length cap3) n w h1 h2 h3 h4)
  have HCL := fun w h1 h2 h3 h4 => hid (sfClear_any s (.slice a0 s.length cap0) p (.slice a1 p.length cap1) b (.slice a2 b.length cap2) d (.slice a3 d.length cap3) n w h1 h2 h3 h4)
  clear hf hp hs hd
  have y0 := c0
  have y1 := c1
  have e : Um.safeF s p b d n = Um.boxF d := by unfold Um.safeF; rw [if_neg h]
  have hne := h
  clear h HRR
  generalize Um.boxF d = G at *
  have HZ : ¬ Um.safeF s p b d n = 0 := by rw [e]; exact hne
  rw [Um.whenAll_not HZ, e] at HWH
  rw [Um.clear_not HZ, e] at HCL
  have k : (G == 0) = false := by simpa using hne
  clear HZ e hne
  go_enter Tryd.func5, Tryd.ntmps5
  go_upto_region 2 with (go_at_call 7; refine (HBX _ (hF.ls hd2)).out.mono ?_; rintro e wn ⟨rfl, hb⟩; replace hF := hF.step hb; clear hb; clear y0 y1; have y0 := (hF.below.cell (p := ⟨w.heap.size, 0, none⟩) h1).trans c0; have y1 := (hF.below.cell (p := ⟨w.heap.size, 1, none⟩) h1).trans c1; clear HBX)
  go_upto_region 19 with (go_at_call 24; refine (HWH _ (hF.lf hf2) (hF.ls hp2) (hF.ls hb2) (hF.ls hd2)).out.mono ?_; rintro e wn ⟨rfl, hb⟩; replace hF := hF.step hb; clear hb; clear y0 y1; have y0 := (hF.below.cell (p := ⟨w.heap.size, 0, none⟩) h1).trans c0; have y1 := (hF.below.cell (p := ⟨w.heap.size, 1, none⟩) h1).trans c1; clear HWH)
  go_upto_region 20 with (go_at_call 10; refine (hid (same_any _ _ _ (hg.below (B := w.heap.size) (hBW.trans (hF.below.mono hBW.size)) hg.size))).out.mono ?_; rintro e wn ⟨rfl, hb⟩; replace hF := hF.step hb; clear hb; clear y0 y1; have y0 := (hF.below.cell (p := ⟨w.heap.size, 0, none⟩) h1).trans c0; have y1 := (hF.below.cell (p := ⟨w.heap.size, 1, none⟩) h1).trans c1)
  go_upto_region 21 with (go_at_call 25; refine (HCL _ (hF.lf hf2) (hF.ls hp2) (hF.ls hb2) (hF.ls hd2)).out.mono ?_; rintro e wn ⟨rfl, hb⟩; replace hF := hF.step hb; clear hb; clear y0 y1; have y0 := (hF.below.cell (p := ⟨w.heap.size, 0, none⟩) h1).trans c0; have y1 := (hF.below.cell (p := ⟨w.heap.size, 1, none⟩) h1).trans c1; clear HCL)
  go_wp2_with (go_at_call 10; refine (hid (same_any _ _ _ (hg.below (B := w.heap.size) (hBW.trans (hF.below.mono hBW.size)) hg.size))).out.mono ?_; rintro e wn ⟨rfl, hb⟩; replace hF := hF.step hb; clear hb; clear y0 y1; have y0 := (hF.below.cell (p := ⟨w.heap.size, 0, none⟩) h1).trans c0; have y1 := (hF.below.cell (p := ⟨w.heap.size, 1, none⟩) h1).trans c1)
  go_returns
  exact ⟨rfl, hBW.trans (hF.below.mono hBW.size)⟩

set_option maxRecDepth 100000 in
set_option maxHeartbeats 16000000 in
theorem walk_tube (s : List (List Um.Tm)) (v0 : Value) (p : List (Int × Int)) (v1 : Value) (b : List (Int × Int)) (v : Value) (d : List (Int × Int)) (t : Value) (n : Int) (w : World) (hg : HasErr w) (hf : Lf w.heap.size w v0 s) (hp : Ls w.heap.size w v1 p) (hs : Ls w.heap.size w v b) (hd : Ls w.heap.size w t d) (h : Um.boxF d = 0) (h2 : ¬ (Um.tubeAll s p b n).2 = 0) :
    Calls Tryd.prog 5 #[.agg #[v0, v1], v, t, .int .i64 n] w fun e w' => e = .returned (.bool true) ∧ Below w.heap.size w w' := by
  have v0 := errV_none
  have q1 := errG
  have q2 := errGn
  have q3 := errE
  have q4 := errN
  obtain ⟨a0, cap0, rfl, -⟩ := (id hf)
  obtain ⟨a1, cap1, rfl, -⟩ := (id hp)
  obtain ⟨a2, cap2, rfl, -⟩ := (id hs)
  obtain ⟨a3, cap3, rfl, -⟩ := (id hd)
  have h1 : w.heap.size < (w.alloc (.cells #[.slice a0 s.length cap0, .slice a1 p.length cap1] 25)).heap.size := by simp
  have hBW : Below w.heap.size w (w.alloc (.cells #[.slice a0 s.length cap0, .slice a1 p.length cap1] 25)) := by go_grown
  obtain ⟨c0, c1⟩ := sys_cells w (.slice a0 s.length cap0) (.slice a1 p.length cap1) 25
  have hF := Fr.start (w.alloc (.cells #[.slice a0 s.length cap0, .slice a1 p.length cap1] 25))
  have hf2 := hf.step hBW
  have hp2 := hp.step hBW
  have hb2 := hs.step hBW
  have hd2 := hd.step hBW
  have HBX := fun w h1 => hid (rBox_any d (.slice a3 d.length cap3) w h1)
  have HRR := fun w h1 h2 h3 => hid (rRun_any s (.slice a0 s.length cap0) p (.slice a1 p.length cap1) b (.slice a2 b.length cap2) n w h1 h2 h3)
  have HWH := fun w h1 h2 h3 h4 => hid (sfWhen_any s (.slice a0 s.length cap0) p (.slice a1 p.length cap1) b (.slice a2 b.length cap2) d (.slice a3 d.length cap3) n w h1 h2 h3 h4)
  have HCL := fun w h1 h2 h3 h4 => hid (sfClear_any s (.slice a0 s.length cap0) p (.slice a1 p.length cap1) b (.slice a2 b.length cap2) d (.slice a3 d.length cap3) n w h1 h2 h3 h4)
  clear hf hp hs hd
  have y0 := c0
  have y1 := c1
  have e : Um.safeF s p b d n = (Um.tubeAll s p b n).2 := by unfold Um.safeF; rw [if_pos h, if_neg h2]
  have hne := h2
  rw [h] at HBX
  clear h h2
  generalize Um.tubeAll s p b n = TA at *
  generalize hG : TA.2 = G at *
  have HZ : ¬ Um.safeF s p b d n = 0 := by rw [e]; exact hne
  rw [Um.whenAll_not HZ, e] at HWH
  rw [Um.clear_not HZ, e] at HCL
  have k : (G == 0) = false := by simpa using hne
  clear HZ e hne hG
  go_enter Tryd.func5, Tryd.ntmps5
  go_upto_region 2 with (go_at_call 7; refine (HBX _ (hF.ls hd2)).out.mono ?_; rintro e wn ⟨rfl, hb⟩; replace hF := hF.step hb; clear hb; clear y0 y1; have y0 := (hF.below.cell (p := ⟨w.heap.size, 0, none⟩) h1).trans c0; have y1 := (hF.below.cell (p := ⟨w.heap.size, 1, none⟩) h1).trans c1; clear HBX)
  go_upto_region 5 with (go_at_call 22; refine (HRR _ (hF.lf hf2) (hF.ls hp2) (hF.ls hb2)).out.mono ?_; rintro e wn ⟨r1, rfl, hw, hb⟩; replace hF := hF.step hb; clear hb; clear y0 y1; have y0 := (hF.below.cell (p := ⟨w.heap.size, 0, none⟩) h1).trans c0; have y1 := (hF.below.cell (p := ⟨w.heap.size, 1, none⟩) h1).trans c1; obtain ⟨s1, d1, rfl, -⟩ := (id hw); clear HRR)
  go_upto_region 19 with (go_at_call 24; refine (HWH _ (hF.lf hf2) (hF.ls hp2) (hF.ls hb2) (hF.ls hd2)).out.mono ?_; rintro e wn ⟨rfl, hb⟩; replace hF := hF.step hb; clear hb; clear y0 y1; have y0 := (hF.below.cell (p := ⟨w.heap.size, 0, none⟩) h1).trans c0; have y1 := (hF.below.cell (p := ⟨w.heap.size, 1, none⟩) h1).trans c1; clear HWH)
  go_upto_region 20 with (go_at_call 10; refine (hid (same_any _ _ _ (hg.below (B := w.heap.size) (hBW.trans (hF.below.mono hBW.size)) hg.size))).out.mono ?_; rintro e wn ⟨rfl, hb⟩; replace hF := hF.step hb; clear hb; clear y0 y1; have y0 := (hF.below.cell (p := ⟨w.heap.size, 0, none⟩) h1).trans c0; have y1 := (hF.below.cell (p := ⟨w.heap.size, 1, none⟩) h1).trans c1)
  go_upto_region 21 with (go_at_call 25; refine (HCL _ (hF.lf hf2) (hF.ls hp2) (hF.ls hb2) (hF.ls hd2)).out.mono ?_; rintro e wn ⟨rfl, hb⟩; replace hF := hF.step hb; clear hb; clear y0 y1; have y0 := (hF.below.cell (p := ⟨w.heap.size, 0, none⟩) h1).trans c0; have y1 := (hF.below.cell (p := ⟨w.heap.size, 1, none⟩) h1).trans c1; clear HCL)
  go_wp2_with (go_at_call 10; refine (hid (same_any _ _ _ (hg.below (B := w.heap.size) (hBW.trans (hF.below.mono hBW.size)) hg.size))).out.mono ?_; rintro e wn ⟨rfl, hb⟩; replace hF := hF.step hb; clear hb; clear y0 y1; have y0 := (hF.below.cell (p := ⟨w.heap.size, 0, none⟩) h1).trans c0; have y1 := (hF.below.cell (p := ⟨w.heap.size, 1, none⟩) h1).trans c1)
  go_returns
  exact ⟨rfl, hBW.trans (hF.below.mono hBW.size)⟩

set_option maxRecDepth 100000 in
set_option maxHeartbeats 16000000 in
theorem walk_shape (s : List (List Um.Tm)) (v0 : Value) (p : List (Int × Int)) (v1 : Value) (b : List (Int × Int)) (v : Value) (d : List (Int × Int)) (t : Value) (n : Int) (w : World) (hg : HasErr w) (hf : Lf w.heap.size w v0 s) (hp : Ls w.heap.size w v1 p) (hs : Ls w.heap.size w v b) (hd : Ls w.heap.size w t d) (h : Um.boxF d = 0) (h2 : (Um.tubeAll s p b n).2 = 0) (h3 : ¬ d.length = b.length) :
    Calls Tryd.prog 5 #[.agg #[v0, v1], v, t, .int .i64 n] w fun e w' => e = .returned (.bool true) ∧ Below w.heap.size w w' := by
  have v0 := errV_none
  have q1 := errG
  have q2 := errGn
  have q3 := errE
  have q4 := errN
  obtain ⟨a0, cap0, rfl, -⟩ := (id hf)
  obtain ⟨a1, cap1, rfl, -⟩ := (id hp)
  obtain ⟨a2, cap2, rfl, -⟩ := (id hs)
  obtain ⟨a3, cap3, rfl, -⟩ := (id hd)
  have h1 : w.heap.size < (w.alloc (.cells #[.slice a0 s.length cap0, .slice a1 p.length cap1] 25)).heap.size := by simp
  have hBW : Below w.heap.size w (w.alloc (.cells #[.slice a0 s.length cap0, .slice a1 p.length cap1] 25)) := by go_grown
  obtain ⟨c0, c1⟩ := sys_cells w (.slice a0 s.length cap0) (.slice a1 p.length cap1) 25
  have hF := Fr.start (w.alloc (.cells #[.slice a0 s.length cap0, .slice a1 p.length cap1] 25))
  have hf2 := hf.step hBW
  have hp2 := hp.step hBW
  have hb2 := hs.step hBW
  have hd2 := hd.step hBW
  have HBX := fun w h1 => hid (rBox_any d (.slice a3 d.length cap3) w h1)
  have HRR := fun w h1 h2 h3 => hid (rRun_any s (.slice a0 s.length cap0) p (.slice a1 p.length cap1) b (.slice a2 b.length cap2) n w h1 h2 h3)
  have HWH := fun w h1 h2 h3 h4 => hid (sfWhen_any s (.slice a0 s.length cap0) p (.slice a1 p.length cap1) b (.slice a2 b.length cap2) d (.slice a3 d.length cap3) n w h1 h2 h3 h4)
  have HCL := fun w h1 h2 h3 h4 => hid (sfClear_any s (.slice a0 s.length cap0) p (.slice a1 p.length cap1) b (.slice a2 b.length cap2) d (.slice a3 d.length cap3) n w h1 h2 h3 h4)
  clear hf hp hs hd
  have y0 := c0
  have y1 := c1
  have e : Um.safeF s p b d n = 3 := by unfold Um.safeF; rw [if_pos h, if_pos h2, if_neg h3]
  have HZ : ¬ Um.safeF s p b d n = 0 := by rw [e]; decide
  rw [Um.whenAll_not HZ, e] at HWH
  rw [Um.clear_not HZ, e] at HCL
  rw [h] at HBX
  rw [h2] at HRR
  have kl : ((d.length : Int) != (b.length : Int)) = true := by simp; omega
  clear h h2 h3 e HZ
  generalize Um.tubeAll s p b n = TA at *
  go_enter Tryd.func5, Tryd.ntmps5
  go_upto_region 2 with (go_at_call 7; refine (HBX _ (hF.ls hd2)).out.mono ?_; rintro e wn ⟨rfl, hb⟩; replace hF := hF.step hb; clear hb; clear y0 y1; have y0 := (hF.below.cell (p := ⟨w.heap.size, 0, none⟩) h1).trans c0; have y1 := (hF.below.cell (p := ⟨w.heap.size, 1, none⟩) h1).trans c1; clear HBX)
  go_upto_region 5 with (go_at_call 22; refine (HRR _ (hF.lf hf2) (hF.ls hp2) (hF.ls hb2)).out.mono ?_; rintro e wn ⟨r1, rfl, hw, hb⟩; replace hF := hF.step hb; clear hb; clear y0 y1; have y0 := (hF.below.cell (p := ⟨w.heap.size, 0, none⟩) h1).trans c0; have y1 := (hF.below.cell (p := ⟨w.heap.size, 1, none⟩) h1).trans c1; obtain ⟨s1, d1, rfl, -⟩ := (id hw); clear HRR)
  go_upto_region 19 with (go_at_call 24; refine (HWH _ (hF.lf hf2) (hF.ls hp2) (hF.ls hb2) (hF.ls hd2)).out.mono ?_; rintro e wn ⟨rfl, hb⟩; replace hF := hF.step hb; clear hb; clear y0 y1; have y0 := (hF.below.cell (p := ⟨w.heap.size, 0, none⟩) h1).trans c0; have y1 := (hF.below.cell (p := ⟨w.heap.size, 1, none⟩) h1).trans c1; clear HWH)
  go_upto_region 20 with (go_at_call 10; refine (hid (same_any _ _ _ (hg.below (B := w.heap.size) (hBW.trans (hF.below.mono hBW.size)) hg.size))).out.mono ?_; rintro e wn ⟨rfl, hb⟩; replace hF := hF.step hb; clear hb; clear y0 y1; have y0 := (hF.below.cell (p := ⟨w.heap.size, 0, none⟩) h1).trans c0; have y1 := (hF.below.cell (p := ⟨w.heap.size, 1, none⟩) h1).trans c1)
  go_upto_region 21 with (go_at_call 25; refine (HCL _ (hF.lf hf2) (hF.ls hp2) (hF.ls hb2) (hF.ls hd2)).out.mono ?_; rintro e wn ⟨rfl, hb⟩; replace hF := hF.step hb; clear hb; clear y0 y1; have y0 := (hF.below.cell (p := ⟨w.heap.size, 0, none⟩) h1).trans c0; have y1 := (hF.below.cell (p := ⟨w.heap.size, 1, none⟩) h1).trans c1; clear HCL)
  go_wp2_with (go_at_call 10; refine (hid (same_any _ _ _ (hg.below (B := w.heap.size) (hBW.trans (hF.below.mono hBW.size)) hg.size))).out.mono ?_; rintro e wn ⟨rfl, hb⟩; replace hF := hF.step hb; clear hb; clear y0 y1; have y0 := (hF.below.cell (p := ⟨w.heap.size, 0, none⟩) h1).trans c0; have y1 := (hF.below.cell (p := ⟨w.heap.size, 1, none⟩) h1).trans c1)
  go_returns
  exact ⟨rfl, hBW.trans (hF.below.mono hBW.size)⟩

set_option maxRecDepth 100000 in
set_option maxHeartbeats 16000000 in
theorem walk_right (s : List (List Um.Tm)) (v0 : Value) (p : List (Int × Int)) (v1 : Value) (b : List (Int × Int)) (v : Value) (d : List (Int × Int)) (t : Value) (n : Int) (w : World) (hg : HasErr w) (hf : Lf w.heap.size w v0 s) (hp : Ls w.heap.size w v1 p) (hs : Ls w.heap.size w v b) (hd : Ls w.heap.size w t d) (h0 : Um.safeF s p b d n = 0) :
    Calls Tryd.prog 5 #[.agg #[v0, v1], v, t, .int .i64 n] w fun e w' => e = .returned (.bool true) ∧ Below w.heap.size w w' := by
  have v0 := errV_none
  have q1 := errG
  have q2 := errGn
  have q3 := errE
  have q4 := errN
  obtain ⟨a0, cap0, rfl, -⟩ := (id hf)
  obtain ⟨a1, cap1, rfl, -⟩ := (id hp)
  obtain ⟨a2, cap2, rfl, -⟩ := (id hs)
  obtain ⟨a3, cap3, rfl, -⟩ := (id hd)
  have h1 : w.heap.size < (w.alloc (.cells #[.slice a0 s.length cap0, .slice a1 p.length cap1] 25)).heap.size := by simp
  have hBW : Below w.heap.size w (w.alloc (.cells #[.slice a0 s.length cap0, .slice a1 p.length cap1] 25)) := by go_grown
  obtain ⟨c0, c1⟩ := sys_cells w (.slice a0 s.length cap0) (.slice a1 p.length cap1) 25
  have hF := Fr.start (w.alloc (.cells #[.slice a0 s.length cap0, .slice a1 p.length cap1] 25))
  have hf2 := hf.step hBW
  have hp2 := hp.step hBW
  have hb2 := hs.step hBW
  have hd2 := hd.step hBW
  have HBX := fun w h1 => hid (rBox_any d (.slice a3 d.length cap3) w h1)
  have HRR := fun w h1 h2 h3 => hid (rRun_any s (.slice a0 s.length cap0) p (.slice a1 p.length cap1) b (.slice a2 b.length cap2) n w h1 h2 h3)
  have HWH := fun w h1 h2 h3 h4 => hid (sfWhen_any s (.slice a0 s.length cap0) p (.slice a1 p.length cap1) b (.slice a2 b.length cap2) d (.slice a3 d.length cap3) n w h1 h2 h3 h4)
  have HCL := fun w h1 h2 h3 h4 => hid (sfClear_any s (.slice a0 s.length cap0) p (.slice a1 p.length cap1) b (.slice a2 b.length cap2) d (.slice a3 d.length cap3) n w h1 h2 h3 h4)
  clear hf hp hs hd
  have y0 := c0
  have y1 := c1
  obtain ⟨h, h2, h3⟩ := Um.safe_ok.1 h0
  have J := hid (fun k hk => Um.safe_boxes h0 (k := k) hk)
  have l21 : (Um.tubeAll s p b n).1.length ≤ 21 := by
    obtain ⟨q1, -, -, q4⟩ := Um.tubeAll_told h2
    rw [q4]
    show (Um.tubes s p b (n.toNat + 1)).length ≤ 21
    rw [Um.tubes_length]
    omega
  rw [Um.clear_yes h0] at HCL
  rw [Um.whenAll_yes h0] at HWH HCL
  have kS : (Um.safeF s p b d n == 0) = true := by simpa using h0
  generalize Um.safeF s p b d n = SF at HCL kS
  rw [h] at HBX
  rw [h2] at HRR
  have kl : ((d.length : Int) != (b.length : Int)) = false := by simp [h3]
  have WF := hid (Um.when_fault d (Um.tubeAll s p b n).1)
  have WZ := hid (Um.whenK_zero d (Um.tubeAll s p b n).1)
  have WE := hid (Um.whenK_end d (Um.tubeAll s p b n).1)
  have WY := hid (fun k hk h => Um.whenK_yes (d := d) (l := (Um.tubeAll s p b n).1) (k := k) hk h)
  have WN := hid (fun k hk h => Um.whenK_no (d := d) (l := (Um.tubeAll s p b n).1) (k := k) hk h)
  clear h h2 h3 h0
  generalize Um.tubeAll s p b n = TA at *
  go_enter Tryd.func5, Tryd.ntmps5
  go_upto_region 2 with (go_at_call 7; refine (HBX _ (hF.ls hd2)).out.mono ?_; rintro e wn ⟨rfl, hb⟩; replace hF := hF.step hb; clear hb; clear y0 y1; have y0 := (hF.below.cell (p := ⟨w.heap.size, 0, none⟩) h1).trans c0; have y1 := (hF.below.cell (p := ⟨w.heap.size, 1, none⟩) h1).trans c1; clear HBX)
  go_upto_region 5 with (go_at_call 22; refine (HRR _ (hF.lf hf2) (hF.ls hp2) (hF.ls hb2)).out.mono ?_; rintro e wn ⟨r1, rfl, hw, hb⟩; replace hF := hF.step hb; clear hb; clear y0 y1; have y0 := (hF.below.cell (p := ⟨w.heap.size, 0, none⟩) h1).trans c0; have y1 := (hF.below.cell (p := ⟨w.heap.size, 1, none⟩) h1).trans c1; obtain ⟨s1, d1, rfl, -⟩ := (id hw); clear HRR)
  go_upto_region 11 with fail
  have HW := hid hw
  have HF0 := hid hF
  clear hw hF kl
  go_wp2
  go_loopw [11, 12, 13] (fun f m i wq => ∃ k : Nat, k ≤ TA.1.length ∧ ∃ i0 : Int, i = .int .i64 i0 ∧ i0 + 1 = k ∧ f = .int .i64 (Um.whenK d TA.1 k).2 ∧ m = .int .i64 (Um.whenK d TA.1 k).1 ∧ Fr wn wq []) (fun _ _ i _ => (intOf i + 1).toNat)
  case atStart => exact ⟨TA.1.length, Nat.le_refl _, _, rfl, by omega, by rw [WE.out], by rw [WE.out], Fr.start _⟩
  case round =>
    obtain ⟨k, hk, i0, rfl, hi0, e1, e2, hG⟩ := hrel
    have hF : Fr (w.alloc (.cells #[.slice a0 s.length cap0, .slice a1 p.length cap1] 25)) wr [] := ⟨HF0.out.below.trans (hG.below.mono HF0.out.size), by simp, List.Pairwise.nil⟩
    have y0 := (hF.below.cell (p := ⟨w.heap.size, 0, none⟩) h1).trans c0
    have y1 := (hF.below.cell (p := ⟨w.heap.size, 1, none⟩) h1).trans c1
    by_cases hi : 0 ≤ i0
    · obtain ⟨m, rfl⟩ : ∃ m : Nat, i0 = m := ⟨i0.toNat, by omega⟩
      obtain rfl : k = m + 1 := by omega
      subst e1
      subst e2
      have dk : decide (0 ≤ (m : Int)) = true := decide_eq_true hi
      have hkt : (m : Int) < (TA.1.length : Int) := by omega
      obtain ⟨b6, o6, c6, e6', -, l6, m6⟩ := ((HW.out.keep hG.below).wide hG.size).open (by intro e; rw [e] at hk; simp at hk)
      cases e6'
      obtain ⟨x6, yt, e6⟩ := m6 m (by omega)
      obtain ⟨a6, c66, rfl, -⟩ := (id e6)
      have HMT := fun w h1 h2 => hid (rMeetBox_any (TA.1[m]?.getD []) d (.slice a6 (TA.1[m]?.getD []).length c66) (.slice a3 d.length cap3) w h1 h2 (J.out m (by omega)))
      have Y := hid (WY.out m (by omega))
      have N := hid (WN.out m (by omega))
      have HMB : Hid (Um.metB (TA.1[m]?.getD []) d = decide ((Um.meetN (TA.1[m]?.getD []) d (TA.1[m]?.getD []).length).2 = 0)) := hid rfl
      clear m6 WY WN WE WZ WF J HW HF0 HWH HCL
      generalize TA.1[m]?.getD [] = tk at *
      generalize Um.metB tk d = MB at *
      generalize Um.meetN tk d tk.length = Z at *
      by_cases hz : Z.2 = 0
      · have kz : (Z.2 == 0) = true := by simpa using hz
        have HM := hid (Y.out (by rw [HMB.out]; exact decide_eq_true hz))
        clear Y N HMB hz
        generalize Um.whenK d TA.1 (m + 1) = Q at *
        go_wp2_with (go_at_call 23; refine (HMT _ e6 (hF.ls hd2)).out.mono ?_; rintro e wn ⟨r7, rfl, h7, hb⟩; replace hG := hG.step hb; replace hF := hF.step hb; clear hb; clear y0 y1; have y0 := (hF.below.cell (p := ⟨w.heap.size, 0, none⟩) h1).trans c0; have y1 := (hF.below.cell (p := ⟨w.heap.size, 1, none⟩) h1).trans c1; obtain ⟨s7, d7, rfl, -⟩ := (id h7); clear HMT h7)
        exact ⟨⟨m, by omega, _, rfl, by omega, by rw [HM.out], by rw [HM.out], hG⟩, by simp [intOf]⟩
      · have kz : (Z.2 == 0) = false := by simpa using hz
        have HM := hid (N.out (by rw [HMB.out]; exact decide_eq_false hz))
        clear Y N HMB hz
        generalize Um.whenK d TA.1 (m + 1) = Q at *
        go_wp2_with (go_at_call 23; refine (HMT _ e6 (hF.ls hd2)).out.mono ?_; rintro e wn ⟨r7, rfl, h7, hb⟩; replace hG := hG.step hb; replace hF := hF.step hb; clear hb; clear y0 y1; have y0 := (hF.below.cell (p := ⟨w.heap.size, 0, none⟩) h1).trans c0; have y1 := (hF.below.cell (p := ⟨w.heap.size, 1, none⟩) h1).trans c1; obtain ⟨s7, d7, rfl, -⟩ := (id h7); clear HMT h7)
        exact ⟨⟨m, by omega, _, rfl, by omega, by rw [HM.out], by rw [HM.out], hG⟩, by simp [intOf]⟩
    · obtain rfl : k = 0 := by omega
      have dk : decide (0 ≤ i0) = false := decide_eq_false hi
      rw [WZ.out] at e1 e2
      clear WY WN WE WZ J HW HF0 hG
      generalize Um.whenL d TA.1 = Q at *
      subst e1
      subst e2
      rcases WF.out with ⟨q0, -, -⟩ | q0
      · have k5 : (Q.2 == 5) = false := beq_false_of_ne (by omega)
        have kd : decide (Q.2 = 0) = true := decide_eq_true q0
        have kq : (Q.2 == Q.2) = true := beq_self_eq_true _
        rw [kd, Bool.not_true] at HCL
        clear WF q0 kd
        go_upto_region 19 with (go_at_call 24; refine (HWH _ (hF.lf hf2) (hF.ls hp2) (hF.ls hb2) (hF.ls hd2)).out.mono ?_; rintro e wn ⟨rfl, hb⟩; replace hF := hF.step hb; clear hb; clear y0 y1; have y0 := (hF.below.cell (p := ⟨w.heap.size, 0, none⟩) h1).trans c0; have y1 := (hF.below.cell (p := ⟨w.heap.size, 1, none⟩) h1).trans c1; clear HWH)
        go_upto_region 20 with (go_at_call 10; refine (hid (same_any _ _ _ (hg.below (B := w.heap.size) (hBW.trans (hF.below.mono hBW.size)) hg.size))).out.mono ?_; rintro e wn ⟨rfl, hb⟩; replace hF := hF.step hb; clear hb; clear y0 y1; have y0 := (hF.below.cell (p := ⟨w.heap.size, 0, none⟩) h1).trans c0; have y1 := (hF.below.cell (p := ⟨w.heap.size, 1, none⟩) h1).trans c1)
        go_upto_region 21 with (go_at_call 25; refine (HCL _ (hF.lf hf2) (hF.ls hp2) (hF.ls hb2) (hF.ls hd2)).out.mono ?_; rintro e wn ⟨rfl, hb⟩; replace hF := hF.step hb; clear hb; clear y0 y1; have y0 := (hF.below.cell (p := ⟨w.heap.size, 0, none⟩) h1).trans c0; have y1 := (hF.below.cell (p := ⟨w.heap.size, 1, none⟩) h1).trans c1; clear HCL)
        go_wp2_with (go_at_call 10; refine (hid (same_any _ _ _ (hg.below (B := w.heap.size) (hBW.trans (hF.below.mono hBW.size)) hg.size))).out.mono ?_; rintro e wn ⟨rfl, hb⟩; replace hF := hF.step hb; clear hb; clear y0 y1; have y0 := (hF.below.cell (p := ⟨w.heap.size, 0, none⟩) h1).trans c0; have y1 := (hF.below.cell (p := ⟨w.heap.size, 1, none⟩) h1).trans c1)
        go_returns
        exact ⟨rfl, hBW.trans (hF.below.mono hBW.size)⟩
      · have kd : (!decide (Q.2 = 0)) = true := by rw [q0]; rfl
        have k5 : (Q.2 == 5) = true := by rw [q0]; rfl
        have kq : (Q.2 == Q.2) = true := beq_self_eq_true _
        rw [kd] at HCL
        clear WF q0 kd
        go_upto_region 19 with (go_at_call 24; refine (HWH _ (hF.lf hf2) (hF.ls hp2) (hF.ls hb2) (hF.ls hd2)).out.mono ?_; rintro e wn ⟨rfl, hb⟩; replace hF := hF.step hb; clear hb; clear y0 y1; have y0 := (hF.below.cell (p := ⟨w.heap.size, 0, none⟩) h1).trans c0; have y1 := (hF.below.cell (p := ⟨w.heap.size, 1, none⟩) h1).trans c1; clear HWH)
        go_upto_region 20 with (go_at_call 10; refine (hid (same_any _ _ _ (hg.below (B := w.heap.size) (hBW.trans (hF.below.mono hBW.size)) hg.size))).out.mono ?_; rintro e wn ⟨rfl, hb⟩; replace hF := hF.step hb; clear hb; clear y0 y1; have y0 := (hF.below.cell (p := ⟨w.heap.size, 0, none⟩) h1).trans c0; have y1 := (hF.below.cell (p := ⟨w.heap.size, 1, none⟩) h1).trans c1)
        go_upto_region 21 with (go_at_call 25; refine (HCL _ (hF.lf hf2) (hF.ls hp2) (hF.ls hb2) (hF.ls hd2)).out.mono ?_; rintro e wn ⟨rfl, hb⟩; replace hF := hF.step hb; clear hb; clear y0 y1; have y0 := (hF.below.cell (p := ⟨w.heap.size, 0, none⟩) h1).trans c0; have y1 := (hF.below.cell (p := ⟨w.heap.size, 1, none⟩) h1).trans c1; clear HCL)
        go_wp2_with (go_at_call 10; refine (hid (same_any _ _ _ (hg.below (B := w.heap.size) (hBW.trans (hF.below.mono hBW.size)) hg.size))).out.mono ?_; rintro e wn ⟨rfl, hb⟩; replace hF := hF.step hb; clear hb; clear y0 y1; have y0 := (hF.below.cell (p := ⟨w.heap.size, 0, none⟩) h1).trans c0; have y1 := (hF.below.cell (p := ⟨w.heap.size, 1, none⟩) h1).trans c1)
        go_returns
        exact ⟨rfl, hBW.trans (hF.below.mono hBW.size)⟩

theorem walk (s : List (List Um.Tm)) (v0 : Value) (p : List (Int × Int)) (v1 : Value) (b : List (Int × Int)) (v : Value) (d : List (Int × Int)) (t : Value) (n : Int) (w : World) (hg : HasErr w) (hf : Lf w.heap.size w v0 s) (hp : Ls w.heap.size w v1 p) (hs : Ls w.heap.size w v b) (hd : Ls w.heap.size w t d) :
    Calls Tryd.prog 5 #[.agg #[v0, v1], v, t, .int .i64 n] w fun e w' => e = .returned (.bool true) ∧ Below w.heap.size w w' := by
  by_cases h : Um.boxF d = 0
  case neg => exact walk_bad s v0 p v1 b v d t n w hg hf hp hs hd h
  by_cases h2 : (Um.tubeAll s p b n).2 = 0
  case neg => exact walk_tube s v0 p v1 b v d t n w hg hf hp hs hd h h2
  by_cases h3 : d.length = b.length
  · exact walk_right s v0 p v1 b v d t n w hg hf hp hs hd (Um.safe_ok.2 ⟨h, h2, h3⟩)
  · exact walk_shape s v0 p v1 b v d t n w hg hf hp hs hd h h2 h3
end Go.Proofs.YtkeoafbkbblnaaaDoor.SfTells
