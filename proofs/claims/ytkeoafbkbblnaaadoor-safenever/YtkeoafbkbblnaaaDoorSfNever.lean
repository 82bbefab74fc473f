/-
  The walk over 'spanlaw2.SafeNever': for all s, b, bad, x, push it returns true.
-/
import Derived.Test.YtkeoafbkbblnaaaDoorSafe
import Derived.Test.YtkeoafbkbblnaaaDoorFlow
import Derived.Test.YtkeoafbkbblnaaaDoorBoxH
import Derived.Test.YtkeoafbkbblnaaaDoorSysLit
import Derived.Test.YtkeoafbkbblnaaaDoorMems2
import Derived.Test.YtkeoafbkbblnaaaDoorSame
import Derived.LoopTactic
import Derived.Deep.CutRange
namespace Go.Proofs.YtkeoafbkbblnaaaDoor.SfNever
set_option linter.unusedSimpArgs false
open Go.RowKit

theorem fact : Um.whenAll [[(2000, 1, 0, 0)]] [(0, 0)] [(1, 2)] [(7, 9)] 5 = (2, 0) := by decide +kernel
theorem clear_five {s : List (List Um.Tm)} {p b d : List (Int × Int)} {n : Int} (h : Um.safeF s p b d n = 0) : ((Um.whenAll s p b d n).2 == 5) = Um.clearB s p b d n := by
  rw [Um.clear_yes h, Um.whenAll_yes h]
  rcases Um.when_fault d (Um.tubeAll s p b n).1 with ⟨e, -, -⟩ | e
  · rw [e]; rfl
  · rw [e]; rfl
theorem never {s : List (List Um.Tm)} {p b d : List (Int × Int)} {x : List Int} {u : List (List Int)} (hs : Um.safeF s p b d u.length = 0) (hp : (Um.pathAll s p x u).2 = 0) (hi : hasA b x = true) : (Um.pathAll s p x u).1.length ≤ 21 ∧ ∀ k, k < (Um.pathAll s p x u).1.length → Um.hasF d ((Um.pathAll s p x u).1[k]?.getD []) = 0 ∧ (hasA d ((Um.pathAll s p x u).1[k]?.getD []) = true → Um.clearB s p b d u.length = false ∧ ¬ (k : Int) < (Um.whenAll s p b d u.length).1) := by
  obtain ⟨f0, f1, f2⟩ := Um.pathAll_good hp
  obtain ⟨h1, h2, h3⟩ := Um.safe_ok.1 hs
  obtain ⟨hn, hr, ht, e⟩ := Um.tubeAll_told h2
  rw [Int.toNat_natCast] at ht e
  obtain ⟨l20, hsy, hxl⟩ := Um.pathF_ok.1 f0
  unfold hasA at hi
  rw [Bool.and_eq_true] at hi
  have hx : Um.hasP b x := of_decide_eq_true hi.2
  have hlen : x.length = b.length := by have := (Um.ready_ok.1 hr).2.2; omega
  rw [f2]
  refine ⟨by show (Um.paths s p x u (u.length + 1)).length ≤ 21; rw [Um.paths_length]; omega, fun k hk => ?_⟩
  have hk' : k < u.length + 1 := by have : k < (Um.paths s p x u (u.length + 1)).length := hk; rwa [Um.paths_length] at this
  show Um.hasF d ((Um.paths s p x u (u.length + 1))[k]?.getD []) = 0 ∧ (hasA d ((Um.paths s p x u (u.length + 1))[k]?.getD []) = true → _)
  rw [Um.paths_get hk']
  have t1 := Um.tube_down ht (show k ≤ u.length by omega)
  obtain ⟨q1, q2⟩ := Um.flow_in (u := u) hr hx hlen t1 (Um.path_down f1 (show k ≤ u.length by omega))
  have r1 := (Um.ready_ok.1 (Um.tube_ready hr t1)).2.2
  have r2 := (Um.ready_ok.1 hr).2.2
  refine ⟨by unfold Um.hasF; rw [if_pos h1, if_pos (by omega)], fun g => ?_⟩
  unfold hasA at g
  rw [Bool.and_eq_true] at g
  have gx : Um.hasP d (Um.pathN s p x u k).1 := of_decide_eq_true g.2
  have hl : k < (Um.tubeAll s p b u.length).1.length := by rw [e]; show k < (Um.tubes s p b (u.length + 1)).length; rw [Um.tubes_length]; exact hk'
  have key : ¬ Um.metB ((Um.tubeAll s p b u.length).1[k]?.getD []) d = false := fun hm => (Um.safe_never hs hp hx hk' hm).1 gx
  rw [Um.clear_yes hs, Um.whenAll_yes hs]
  by_cases c : (Um.whenL d (Um.tubeAll s p b u.length).1).2 = 0
  · refine ⟨by rw [decide_eq_true c]; rfl, fun q => key (Um.when_first c q)⟩
  · exact absurd (Um.when_none c hl) key

set_option maxRecDepth 100000 in
set_option maxHeartbeats 16000000 in
theorem walk_not (s : List (List Um.Tm)) (v0 : Value) (p : List (Int × Int)) (v1 : Value) (b : List (Int × Int)) (v : Value) (d : List (Int × Int)) (z : Value) (x : List Int) (t : Value) (u : List (List Int)) (r : Value) (w : World) (hf : Lf w.heap.size w v0 s) (hp : Ls w.heap.size w v1 p) (hs : Ls w.heap.size w v b) (hd : Ls w.heap.size w z d) (hx : Li w.heap.size w t x) (hu : Ll w.heap.size w r u) (h : ¬ Um.safeF s p b d u.length = 0) :
    Calls Tryd.prog 6 #[.agg #[v0, v1], v, z, t, r] w fun e w' => e = .returned (.bool true) ∧ Below w.heap.size w w' := by
  have v0 := errV_none
  have q1 := errG
  have q2 := errGn
  have q3 := errE
  have q4 := errN
  obtain ⟨a0, cap0, rfl, -⟩ := (id hf)
  obtain ⟨a1, cap1, rfl, -⟩ := (id hp)
  obtain ⟨a2, cap2, rfl, -⟩ := (id hs)
  obtain ⟨a3, cap3, rfl, -⟩ := (id hd)
  obtain ⟨a4, cap4, rfl, -⟩ := (id hx)
  obtain ⟨a5, cap5, rfl, -⟩ := (id hu)
  have h1 : w.heap.size < (w.alloc (.cells #[.slice a0 s.length cap0, .slice a1 p.length cap1] 25)).heap.size := by simp
  have hBW : Below w.heap.size w (w.alloc (.cells #[.slice a0 s.length cap0, .slice a1 p.length cap1] 25)) := by go_grown
  obtain ⟨c0, c1⟩ := sys_cells w (.slice a0 s.length cap0) (.slice a1 p.length cap1) 25
  have hF := Fr.start (w.alloc (.cells #[.slice a0 s.length cap0, .slice a1 p.length cap1] 25))
  have hf2 := hf.step hBW
  have hp2 := hp.step hBW
  have hb2 := hs.step hBW
  have hd2 := hd.step hBW
  have hx2 := (hx.keep hBW).wide hBW.size
  have hu2 := hu.step hBW
  have H0 := fun v0 v1 v t w h1 h2 h3 h4 => hid (sfWhen_any [[(2000, 1, 0, 0)]] v0 [(0, 0)] v1 [(1, 2)] v [(7, 9)] t 5 w h1 h2 h3 h4)
  rw [fact] at H0
  have HWH := fun w h1 h2 h3 h4 => hid (sfWhen_any s (.slice a0 s.length cap0) p (.slice a1 p.length cap1) b (.slice a2 b.length cap2) d (.slice a3 d.length cap3) u.length w h1 h2 h3 h4)
  have HCL := fun w h1 h2 h3 h4 => hid (sfClear_any s (.slice a0 s.length cap0) p (.slice a1 p.length cap1) b (.slice a2 b.length cap2) d (.slice a3 d.length cap3) u.length w h1 h2 h3 h4)
  have HPA := fun w h1 h2 h3 h4 => hid (flPath_any s (.slice a0 s.length cap0) p (.slice a1 p.length cap1) x (.slice a4 x.length cap4) u (.slice a5 u.length cap5) w h1 h2 h3 h4)
  have HHA := fun w h1 h2 => hid (bhas_any b (.slice a2 b.length cap2) x (.slice a4 x.length cap4) w h1 h2)
  clear hf hp hs hx hu hd
  have y0 := c0
  have y1 := c1
  rw [Um.whenAll_not h] at HWH
  have k : (Um.safeF s p b d u.length != 0) = true := by simpa using h
  clear h HPA HHA hx2 hu2
  generalize Um.clearB s p b d u.length = CB at *
  generalize Um.safeF s p b d u.length = SF at *
  go_enter Tryd.func6, Tryd.ntmps6
  go_upto_region 5 with (go_at_call 24; refine (H0 _ _ _ _ _ (((((lit_lf (by simp) (by decide) (lit_lt (2000, 1, 0, 0) (by simp) (by decide))).alloc _).alloc _).alloc _).alloc _) ((((lit_ls 0 0 (by simp) (by decide)).alloc _).alloc _).alloc _) ((lit_ls 1 2 (by simp) (by decide)).alloc _) (lit_ls 7 9 (by simp) (by decide))).out.mono ?_; rintro e wn ⟨rfl, hb⟩; replace hF := ((((((hF.alloc _).alloc _).alloc _).alloc _).alloc _).alloc _).step hb; clear hb H0 y0 y1; have y0 := (hF.below.cell (p := ⟨w.heap.size, 0, none⟩) h1).trans c0; have y1 := (hF.below.cell (p := ⟨w.heap.size, 1, none⟩) h1).trans c1)
  go_upto_region 6 with (go_at_call 24; refine (HWH _ (hF.lf hf2) (hF.ls hp2) (hF.ls hb2) (hF.ls hd2)).out.mono ?_; rintro e wn ⟨rfl, hb⟩; replace hF := hF.step hb; clear hb; clear y0 y1; have y0 := (hF.below.cell (p := ⟨w.heap.size, 0, none⟩) h1).trans c0; have y1 := (hF.below.cell (p := ⟨w.heap.size, 1, none⟩) h1).trans c1; clear HWH)
  go_wp2_with (go_at_call 25; refine (HCL _ (hF.lf hf2) (hF.ls hp2) (hF.ls hb2) (hF.ls hd2)).out.mono ?_; rintro e wn ⟨rfl, hb⟩; replace hF := hF.step hb; clear hb; clear y0 y1; have y0 := (hF.below.cell (p := ⟨w.heap.size, 0, none⟩) h1).trans c0; have y1 := (hF.below.cell (p := ⟨w.heap.size, 1, none⟩) h1).trans c1; clear HCL)
  go_returns
  exact ⟨rfl, hBW.trans (hF.below.mono hBW.size)⟩

set_option maxRecDepth 100000 in
set_option maxHeartbeats 16000000 in
theorem walk_path (s : List (List Um.Tm)) (v0 : Value) (p : List (Int × Int)) (v1 : Value) (b : List (Int × Int)) (v : Value) (d : List (Int × Int)) (z : Value) (x : List Int) (t : Value) (u : List (List Int)) (r : Value) (w : World) (hg : HasErr w) (hf : Lf w.heap.size w v0 s) (hp : Ls w.heap.size w v1 p) (hs : Ls w.heap.size w v b) (hd : Ls w.heap.size w z d) (hx : Li w.heap.size w t x) (hu : Ll w.heap.size w r u) (h : Um.safeF s p b d u.length = 0) (h2 : ¬ (Um.pathAll s p x u).2 = 0) :
    Calls Tryd.prog 6 #[.agg #[v0, v1], v, z, t, r] w fun e w' => e = .returned (.bool true) ∧ Below w.heap.size w w' := by
  have v0 := errV_none
  have q1 := errG
  have q2 := errGn
  have q3 := errE
  have q4 := errN
  obtain ⟨a0, cap0, rfl, -⟩ := (id hf)
  obtain ⟨a1, cap1, rfl, -⟩ := (id hp)
  obtain ⟨a2, cap2, rfl, -⟩ := (id hs)
  obtain ⟨a3, cap3, rfl, -⟩ := (id hd)
  obtain ⟨a4, cap4, rfl, -⟩ := (id hx)
  obtain ⟨a5, cap5, rfl, -⟩ := (id hu)
  have h1 : w.heap.size < (w.alloc (.cells #[.slice a0 s.length cap0, .slice a1 p.length cap1] 25)).heap.size := by simp
  have hBW : Below w.heap.size w (w.alloc (.cells #[.slice a0 s.length cap0, .slice a1 p.length cap1] 25)) := by go_grown
  obtain ⟨c0, c1⟩ := sys_cells w (.slice a0 s.length cap0) (.slice a1 p.length cap1) 25
  have hF := Fr.start (w.alloc (.cells #[.slice a0 s.length cap0, .slice a1 p.length cap1] 25))
  have hf2 := hf.step hBW
  have hp2 := hp.step hBW
  have hb2 := hs.step hBW
  have hd2 := hd.step hBW
  have hx2 := (hx.keep hBW).wide hBW.size
  have hu2 := hu.step hBW
  have H0 := fun v0 v1 v t w h1 h2 h3 h4 => hid (sfWhen_any [[(2000, 1, 0, 0)]] v0 [(0, 0)] v1 [(1, 2)] v [(7, 9)] t 5 w h1 h2 h3 h4)
  rw [fact] at H0
  have HWH := fun w h1 h2 h3 h4 => hid (sfWhen_any s (.slice a0 s.length cap0) p (.slice a1 p.length cap1) b (.slice a2 b.length cap2) d (.slice a3 d.length cap3) u.length w h1 h2 h3 h4)
  have HCL := fun w h1 h2 h3 h4 => hid (sfClear_any s (.slice a0 s.length cap0) p (.slice a1 p.length cap1) b (.slice a2 b.length cap2) d (.slice a3 d.length cap3) u.length w h1 h2 h3 h4)
  have HPA := fun w h1 h2 h3 h4 => hid (flPath_any s (.slice a0 s.length cap0) p (.slice a1 p.length cap1) x (.slice a4 x.length cap4) u (.slice a5 u.length cap5) w h1 h2 h3 h4)
  have HHA := fun w h1 h2 => hid (bhas_any b (.slice a2 b.length cap2) x (.slice a4 x.length cap4) w h1 h2)
  clear hf hp hs hx hu hd
  have y0 := c0
  have y1 := c1
  have k5 := clear_five h
  have kS : (Um.safeF s p b d u.length != 0) = false := by simpa using h
  clear h
  generalize Um.clearB s p b d u.length = CB at *
  generalize Um.safeF s p b d u.length = SF at *
  generalize Um.whenAll s p b d u.length = WA at *
  have k2 : ((Um.pathAll s p x u).2 != 0) = true := by simpa using h2
  clear h2 HHA
  generalize Um.pathAll s p x u = PA at *
  cases CB
  all_goals
    go_enter Tryd.func6, Tryd.ntmps6
    go_upto_region 5 with (go_at_call 24; refine (H0 _ _ _ _ _ (((((lit_lf (by simp) (by decide) (lit_lt (2000, 1, 0, 0) (by simp) (by decide))).alloc _).alloc _).alloc _).alloc _) ((((lit_ls 0 0 (by simp) (by decide)).alloc _).alloc _).alloc _) ((lit_ls 1 2 (by simp) (by decide)).alloc _) (lit_ls 7 9 (by simp) (by decide))).out.mono ?_; rintro e wn ⟨rfl, hb⟩; replace hF := ((((((hF.alloc _).alloc _).alloc _).alloc _).alloc _).alloc _).step hb; clear hb H0 y0 y1; have y0 := (hF.below.cell (p := ⟨w.heap.size, 0, none⟩) h1).trans c0; have y1 := (hF.below.cell (p := ⟨w.heap.size, 1, none⟩) h1).trans c1)
    go_upto_region 6 with (go_at_call 24; refine (HWH _ (hF.lf hf2) (hF.ls hp2) (hF.ls hb2) (hF.ls hd2)).out.mono ?_; rintro e wn ⟨rfl, hb⟩; replace hF := hF.step hb; clear hb; clear y0 y1; have y0 := (hF.below.cell (p := ⟨w.heap.size, 0, none⟩) h1).trans c0; have y1 := (hF.below.cell (p := ⟨w.heap.size, 1, none⟩) h1).trans c1; clear HWH)
    go_upto_region 9 with (go_at_call 25; refine (HCL _ (hF.lf hf2) (hF.ls hp2) (hF.ls hb2) (hF.ls hd2)).out.mono ?_; rintro e wn ⟨rfl, hb⟩; replace hF := hF.step hb; clear hb; clear y0 y1; have y0 := (hF.below.cell (p := ⟨w.heap.size, 0, none⟩) h1).trans c0; have y1 := (hF.below.cell (p := ⟨w.heap.size, 1, none⟩) h1).trans c1; clear HCL)
    go_upto_region 11 with (go_at_call 10; refine (hid (same_any _ _ _ (hg.below (B := w.heap.size) (hBW.trans (hF.below.mono hBW.size)) hg.size))).out.mono ?_; rintro e wn ⟨rfl, hb⟩; replace hF := hF.step hb; clear hb; clear y0 y1; have y0 := (hF.below.cell (p := ⟨w.heap.size, 0, none⟩) h1).trans c0; have y1 := (hF.below.cell (p := ⟨w.heap.size, 1, none⟩) h1).trans c1)
    go_wp2_with (go_at_call 26; refine (HPA _ (hF.lf hf2) (hF.ls hp2) (hF.li hx2) (hF.ll hu2)).out.mono ?_; rintro e wn ⟨r2, rfl, hpt, hb⟩; replace hF := hF.step hb; clear hb; clear y0 y1; have y0 := (hF.below.cell (p := ⟨w.heap.size, 0, none⟩) h1).trans c0; have y1 := (hF.below.cell (p := ⟨w.heap.size, 1, none⟩) h1).trans c1; obtain ⟨s2, d2, rfl, -⟩ := (id hpt); clear HPA)
    go_returns
    exact ⟨rfl, hBW.trans (hF.below.mono hBW.size)⟩

set_option maxRecDepth 100000 in
set_option maxHeartbeats 16000000 in
theorem walk_has (s : List (List Um.Tm)) (v0 : Value) (p : List (Int × Int)) (v1 : Value) (b : List (Int × Int)) (v : Value) (d : List (Int × Int)) (z : Value) (x : List Int) (t : Value) (u : List (List Int)) (r : Value) (w : World) (hg : HasErr w) (hf : Lf w.heap.size w v0 s) (hp : Ls w.heap.size w v1 p) (hs : Ls w.heap.size w v b) (hd : Ls w.heap.size w z d) (hx : Li w.heap.size w t x) (hu : Ll w.heap.size w r u) (h : Um.safeF s p b d u.length = 0) (h2 : (Um.pathAll s p x u).2 = 0) (h3 : ¬ Um.hasF b x = 0) :
    Calls Tryd.prog 6 #[.agg #[v0, v1], v, z, t, r] w fun e w' => e = .returned (.bool true) ∧ Below w.heap.size w w' := by
  have v0 := errV_none
  have q1 := errG
  have q2 := errGn
  have q3 := errE
  have q4 := errN
  obtain ⟨a0, cap0, rfl, -⟩ := (id hf)
  obtain ⟨a1, cap1, rfl, -⟩ := (id hp)
  obtain ⟨a2, cap2, rfl, -⟩ := (id hs)
  obtain ⟨a3, cap3, rfl, -⟩ := (id hd)
  obtain ⟨a4, cap4, rfl, -⟩ := (id hx)
  obtain ⟨a5, cap5, rfl, -⟩ := (id hu)
  have h1 : w.heap.size < (w.alloc (.cells #[.slice a0 s.length cap0, .slice a1 p.length cap1] 25)).heap.size := by simp
  have hBW : Below w.heap.size w (w.alloc (.cells #[.slice a0 s.length cap0, .slice a1 p.length cap1] 25)) := by go_grown
  obtain ⟨c0, c1⟩ := sys_cells w (.slice a0 s.length cap0) (.slice a1 p.length cap1) 25
  have hF := Fr.start (w.alloc (.cells #[.slice a0 s.length cap0, .slice a1 p.length cap1] 25))
  have hf2 := hf.step hBW
  have hp2 := hp.step hBW
  have hb2 := hs.step hBW
  have hd2 := hd.step hBW
  have hx2 := (hx.keep hBW).wide hBW.size
  have hu2 := hu.step hBW
  have H0 := fun v0 v1 v t w h1 h2 h3 h4 => hid (sfWhen_any [[(2000, 1, 0, 0)]] v0 [(0, 0)] v1 [(1, 2)] v [(7, 9)] t 5 w h1 h2 h3 h4)
  rw [fact] at H0
  have HWH := fun w h1 h2 h3 h4 => hid (sfWhen_any s (.slice a0 s.length cap0) p (.slice a1 p.length cap1) b (.slice a2 b.length cap2) d (.slice a3 d.length cap3) u.length w h1 h2 h3 h4)
  have HCL := fun w h1 h2 h3 h4 => hid (sfClear_any s (.slice a0 s.length cap0) p (.slice a1 p.length cap1) b (.slice a2 b.length cap2) d (.slice a3 d.length cap3) u.length w h1 h2 h3 h4)
  have HPA := fun w h1 h2 h3 h4 => hid (flPath_any s (.slice a0 s.length cap0) p (.slice a1 p.length cap1) x (.slice a4 x.length cap4) u (.slice a5 u.length cap5) w h1 h2 h3 h4)
  have HHA := fun w h1 h2 => hid (bhas_any b (.slice a2 b.length cap2) x (.slice a4 x.length cap4) w h1 h2)
  clear hf hp hs hx hu hd
  have y0 := c0
  have y1 := c1
  have k5 := clear_five h
  have kS : (Um.safeF s p b d u.length != 0) = false := by simpa using h
  clear h
  generalize Um.clearB s p b d u.length = CB at *
  generalize Um.safeF s p b d u.length = SF at *
  generalize Um.whenAll s p b d u.length = WA at *
  have k2 : ((Um.pathAll s p x u).2 != 0) = false := by simpa using h2
  clear h2
  have k3 : (Um.hasF b x != 0) = true := by simpa using h3
  clear h3
  generalize Um.hasF b x = HF at *
  generalize hasA b x = I at *
  generalize Um.pathAll s p x u = PA at *
  cases CB
  all_goals
    go_enter Tryd.func6, Tryd.ntmps6
    go_upto_region 5 with (go_at_call 24; refine (H0 _ _ _ _ _ (((((lit_lf (by simp) (by decide) (lit_lt (2000, 1, 0, 0) (by simp) (by decide))).alloc _).alloc _).alloc _).alloc _) ((((lit_ls 0 0 (by simp) (by decide)).alloc _).alloc _).alloc _) ((lit_ls 1 2 (by simp) (by decide)).alloc _) (lit_ls 7 9 (by simp) (by decide))).out.mono ?_; rintro e wn ⟨rfl, hb⟩; replace hF := ((((((hF.alloc _).alloc _).alloc _).alloc _).alloc _).alloc _).step hb; clear hb H0 y0 y1; have y0 := (hF.below.cell (p := ⟨w.heap.size, 0, none⟩) h1).trans c0; have y1 := (hF.below.cell (p := ⟨w.heap.size, 1, none⟩) h1).trans c1)
    go_upto_region 6 with (go_at_call 24; refine (HWH _ (hF.lf hf2) (hF.ls hp2) (hF.ls hb2) (hF.ls hd2)).out.mono ?_; rintro e wn ⟨rfl, hb⟩; replace hF := hF.step hb; clear hb; clear y0 y1; have y0 := (hF.below.cell (p := ⟨w.heap.size, 0, none⟩) h1).trans c0; have y1 := (hF.below.cell (p := ⟨w.heap.size, 1, none⟩) h1).trans c1; clear HWH)
    go_upto_region 9 with (go_at_call 25; refine (HCL _ (hF.lf hf2) (hF.ls hp2) (hF.ls hb2) (hF.ls hd2)).out.mono ?_; rintro e wn ⟨rfl, hb⟩; replace hF := hF.step hb; clear hb; clear y0 y1; have y0 := (hF.below.cell (p := ⟨w.heap.size, 0, none⟩) h1).trans c0; have y1 := (hF.below.cell (p := ⟨w.heap.size, 1, none⟩) h1).trans c1; clear HCL)
    go_upto_region 11 with (go_at_call 10; refine (hid (same_any _ _ _ (hg.below (B := w.heap.size) (hBW.trans (hF.below.mono hBW.size)) hg.size))).out.mono ?_; rintro e wn ⟨rfl, hb⟩; replace hF := hF.step hb; clear hb; clear y0 y1; have y0 := (hF.below.cell (p := ⟨w.heap.size, 0, none⟩) h1).trans c0; have y1 := (hF.below.cell (p := ⟨w.heap.size, 1, none⟩) h1).trans c1)
    go_upto_region 14 with (go_at_call 26; refine (HPA _ (hF.lf hf2) (hF.ls hp2) (hF.li hx2) (hF.ll hu2)).out.mono ?_; rintro e wn ⟨r2, rfl, hpt, hb⟩; replace hF := hF.step hb; clear hb; clear y0 y1; have y0 := (hF.below.cell (p := ⟨w.heap.size, 0, none⟩) h1).trans c0; have y1 := (hF.below.cell (p := ⟨w.heap.size, 1, none⟩) h1).trans c1; obtain ⟨s2, d2, rfl, -⟩ := (id hpt); clear HPA)
    go_wp2_with (go_at_call 27; refine (HHA _ (hF.ls hb2) (hF.li hx2)).out.mono ?_; rintro e wn ⟨rfl, hb⟩; replace hpt := hpt.step hb; replace hF := hF.step hb; clear hb; clear y0 y1; have y0 := (hF.below.cell (p := ⟨w.heap.size, 0, none⟩) h1).trans c0; have y1 := (hF.below.cell (p := ⟨w.heap.size, 1, none⟩) h1).trans c1; clear HHA)
    go_returns
    exact ⟨rfl, hBW.trans (hF.below.mono hBW.size)⟩

set_option maxRecDepth 100000 in
set_option maxHeartbeats 16000000 in
theorem walk_out (s : List (List Um.Tm)) (v0 : Value) (p : List (Int × Int)) (v1 : Value) (b : List (Int × Int)) (v : Value) (d : List (Int × Int)) (z : Value) (x : List Int) (t : Value) (u : List (List Int)) (r : Value) (w : World) (hg : HasErr w) (hf : Lf w.heap.size w v0 s) (hp : Ls w.heap.size w v1 p) (hs : Ls w.heap.size w v b) (hd : Ls w.heap.size w z d) (hx : Li w.heap.size w t x) (hu : Ll w.heap.size w r u) (h : Um.safeF s p b d u.length = 0) (h2 : (Um.pathAll s p x u).2 = 0) (h3 : Um.hasF b x = 0) (h4 : hasA b x = false) :
    Calls Tryd.prog 6 #[.agg #[v0, v1], v, z, t, r] w fun e w' => e = .returned (.bool true) ∧ Below w.heap.size w w' := by
  have v0 := errV_none
  have q1 := errG
  have q2 := errGn
  have q3 := errE
  have q4 := errN
  obtain ⟨a0, cap0, rfl, -⟩ := (id hf)
  obtain ⟨a1, cap1, rfl, -⟩ := (id hp)
  obtain ⟨a2, cap2, rfl, -⟩ := (id hs)
  obtain ⟨a3, cap3, rfl, -⟩ := (id hd)
  obtain ⟨a4, cap4, rfl, -⟩ := (id hx)
  obtain ⟨a5, cap5, rfl, -⟩ := (id hu)
  have h1 : w.heap.size < (w.alloc (.cells #[.slice a0 s.length cap0, .slice a1 p.length cap1] 25)).heap.size := by simp
  have hBW : Below w.heap.size w (w.alloc (.cells #[.slice a0 s.length cap0, .slice a1 p.length cap1] 25)) := by go_grown
  obtain ⟨c0, c1⟩ := sys_cells w (.slice a0 s.length cap0) (.slice a1 p.length cap1) 25
  have hF := Fr.start (w.alloc (.cells #[.slice a0 s.length cap0, .slice a1 p.length cap1] 25))
  have hf2 := hf.step hBW
  have hp2 := hp.step hBW
  have hb2 := hs.step hBW
  have hd2 := hd.step hBW
  have hx2 := (hx.keep hBW).wide hBW.size
  have hu2 := hu.step hBW
  have H0 := fun v0 v1 v t w h1 h2 h3 h4 => hid (sfWhen_any [[(2000, 1, 0, 0)]] v0 [(0, 0)] v1 [(1, 2)] v [(7, 9)] t 5 w h1 h2 h3 h4)
  rw [fact] at H0
  have HWH := fun w h1 h2 h3 h4 => hid (sfWhen_any s (.slice a0 s.length cap0) p (.slice a1 p.length cap1) b (.slice a2 b.length cap2) d (.slice a3 d.length cap3) u.length w h1 h2 h3 h4)
  have HCL := fun w h1 h2 h3 h4 => hid (sfClear_any s (.slice a0 s.length cap0) p (.slice a1 p.length cap1) b (.slice a2 b.length cap2) d (.slice a3 d.length cap3) u.length w h1 h2 h3 h4)
  have HPA := fun w h1 h2 h3 h4 => hid (flPath_any s (.slice a0 s.length cap0) p (.slice a1 p.length cap1) x (.slice a4 x.length cap4) u (.slice a5 u.length cap5) w h1 h2 h3 h4)
  have HHA := fun w h1 h2 => hid (bhas_any b (.slice a2 b.length cap2) x (.slice a4 x.length cap4) w h1 h2)
  clear hf hp hs hx hu hd
  have y0 := c0
  have y1 := c1
  have k5 := clear_five h
  have kS : (Um.safeF s p b d u.length != 0) = false := by simpa using h
  clear h
  generalize Um.clearB s p b d u.length = CB at *
  generalize Um.safeF s p b d u.length = SF at *
  generalize Um.whenAll s p b d u.length = WA at *
  have k2 : ((Um.pathAll s p x u).2 != 0) = false := by simpa using h2
  clear h2
  rw [h3, h4] at HHA
  clear h3 h4
  generalize Um.pathAll s p x u = PA at *
  cases CB
  all_goals
    go_enter Tryd.func6, Tryd.ntmps6
    go_upto_region 5 with (go_at_call 24; refine (H0 _ _ _ _ _ (((((lit_lf (by simp) (by decide) (lit_lt (2000, 1, 0, 0) (by simp) (by decide))).alloc _).alloc _).alloc _).alloc _) ((((lit_ls 0 0 (by simp) (by decide)).alloc _).alloc _).alloc _) ((lit_ls 1 2 (by simp) (by decide)).alloc _) (lit_ls 7 9 (by simp) (by decide))).out.mono ?_; rintro e wn ⟨rfl, hb⟩; replace hF := ((((((hF.alloc _).alloc _).alloc _).alloc _).alloc _).alloc _).step hb; clear hb H0 y0 y1; have y0 := (hF.below.cell (p := ⟨w.heap.size, 0, none⟩) h1).trans c0; have y1 := (hF.below.cell (p := ⟨w.heap.size, 1, none⟩) h1).trans c1)
    go_upto_region 6 with (go_at_call 24; refine (HWH _ (hF.lf hf2) (hF.ls hp2) (hF.ls hb2) (hF.ls hd2)).out.mono ?_; rintro e wn ⟨rfl, hb⟩; replace hF := hF.step hb; clear hb; clear y0 y1; have y0 := (hF.below.cell (p := ⟨w.heap.size, 0, none⟩) h1).trans c0; have y1 := (hF.below.cell (p := ⟨w.heap.size, 1, none⟩) h1).trans c1; clear HWH)
    go_upto_region 9 with (go_at_call 25; refine (HCL _ (hF.lf hf2) (hF.ls hp2) (hF.ls hb2) (hF.ls hd2)).out.mono ?_; rintro e wn ⟨rfl, hb⟩; replace hF := hF.step hb; clear hb; clear y0 y1; have y0 := (hF.below.cell (p := ⟨w.heap.size, 0, none⟩) h1).trans c0; have y1 := (hF.below.cell (p := ⟨w.heap.size, 1, none⟩) h1).trans c1; clear HCL)
    go_upto_region 11 with (go_at_call 10; refine (hid (same_any _ _ _ (hg.below (B := w.heap.size) (hBW.trans (hF.below.mono hBW.size)) hg.size))).out.mono ?_; rintro e wn ⟨rfl, hb⟩; replace hF := hF.step hb; clear hb; clear y0 y1; have y0 := (hF.below.cell (p := ⟨w.heap.size, 0, none⟩) h1).trans c0; have y1 := (hF.below.cell (p := ⟨w.heap.size, 1, none⟩) h1).trans c1)
    go_upto_region 14 with (go_at_call 26; refine (HPA _ (hF.lf hf2) (hF.ls hp2) (hF.li hx2) (hF.ll hu2)).out.mono ?_; rintro e wn ⟨r2, rfl, hpt, hb⟩; replace hF := hF.step hb; clear hb; clear y0 y1; have y0 := (hF.below.cell (p := ⟨w.heap.size, 0, none⟩) h1).trans c0; have y1 := (hF.below.cell (p := ⟨w.heap.size, 1, none⟩) h1).trans c1; obtain ⟨s2, d2, rfl, -⟩ := (id hpt); clear HPA)
    go_wp2_with (go_at_call 27; refine (HHA _ (hF.ls hb2) (hF.li hx2)).out.mono ?_; rintro e wn ⟨rfl, hb⟩; replace hpt := hpt.step hb; replace hF := hF.step hb; clear hb; clear y0 y1; have y0 := (hF.below.cell (p := ⟨w.heap.size, 0, none⟩) h1).trans c0; have y1 := (hF.below.cell (p := ⟨w.heap.size, 1, none⟩) h1).trans c1; clear HHA)
    go_returns
    exact ⟨rfl, hBW.trans (hF.below.mono hBW.size)⟩

set_option maxRecDepth 100000 in
set_option maxHeartbeats 16000000 in
theorem walk_in (s : List (List Um.Tm)) (v0 : Value) (p : List (Int × Int)) (v1 : Value) (b : List (Int × Int)) (v : Value) (d : List (Int × Int)) (z : Value) (x : List Int) (t : Value) (u : List (List Int)) (r : Value) (w : World) (hg : HasErr w) (hf : Lf w.heap.size w v0 s) (hp : Ls w.heap.size w v1 p) (hs : Ls w.heap.size w v b) (hd : Ls w.heap.size w z d) (hx : Li w.heap.size w t x) (hu : Ll w.heap.size w r u) (h : Um.safeF s p b d u.length = 0) (h2 : (Um.pathAll s p x u).2 = 0) (h3 : Um.hasF b x = 0) (h4 : hasA b x = true) :
    Calls Tryd.prog 6 #[.agg #[v0, v1], v, z, t, r] w fun e w' => e = .returned (.bool true) ∧ Below w.heap.size w w' := by
  have v0 := errV_none
  have q1 := errG
  have q2 := errGn
  have q3 := errE
  have q4 := errN
  obtain ⟨a0, cap0, rfl, -⟩ := (id hf)
  obtain ⟨a1, cap1, rfl, -⟩ := (id hp)
  obtain ⟨a2, cap2, rfl, -⟩ := (id hs)
  obtain ⟨a3, cap3, rfl, -⟩ := (id hd)
  obtain ⟨a4, cap4, rfl, -⟩ := (id hx)
  obtain ⟨a5, cap5, rfl, -⟩ := (id hu)
  have h1 : w.heap.size < (w.alloc (.cells #[.slice a0 s.length cap0, .slice a1 p.length cap1] 25)).heap.size := by simp
  have hBW : Below w.heap.size w (w.alloc (.cells #[.slice a0 s.length cap0, .slice a1 p.length cap1] 25)) := by go_grown
  obtain ⟨c0, c1⟩ := sys_cells w (.slice a0 s.length cap0) (.slice a1 p.length cap1) 25
  have hF := Fr.start (w.alloc (.cells #[.slice a0 s.length cap0, .slice a1 p.length cap1] 25))
  have hf2 := hf.step hBW
  have hp2 := hp.step hBW
  have hb2 := hs.step hBW
  have hd2 := hd.step hBW
  have hx2 := (hx.keep hBW).wide hBW.size
  have hu2 := hu.step hBW
  have H0 := fun v0 v1 v t w h1 h2 h3 h4 => hid (sfWhen_any [[(2000, 1, 0, 0)]] v0 [(0, 0)] v1 [(1, 2)] v [(7, 9)] t 5 w h1 h2 h3 h4)
  rw [fact] at H0
  have HWH := fun w h1 h2 h3 h4 => hid (sfWhen_any s (.slice a0 s.length cap0) p (.slice a1 p.length cap1) b (.slice a2 b.length cap2) d (.slice a3 d.length cap3) u.length w h1 h2 h3 h4)
  have HCL := fun w h1 h2 h3 h4 => hid (sfClear_any s (.slice a0 s.length cap0) p (.slice a1 p.length cap1) b (.slice a2 b.length cap2) d (.slice a3 d.length cap3) u.length w h1 h2 h3 h4)
  have HPA := fun w h1 h2 h3 h4 => hid (flPath_any s (.slice a0 s.length cap0) p (.slice a1 p.length cap1) x (.slice a4 x.length cap4) u (.slice a5 u.length cap5) w h1 h2 h3 h4)
  have HHA := fun w h1 h2 => hid (bhas_any b (.slice a2 b.length cap2) x (.slice a4 x.length cap4) w h1 h2)
  clear hf hp hs hx hu hd
  have y0 := c0
  have y1 := c1
  obtain ⟨j1, j2⟩ := never h h2 h4
  have J2 := hid j2
  have k2 : ((Um.pathAll s p x u).2 != 0) = false := by simpa using h2
  rw [h3, h4] at HHA
  clear h2 h3 h4 j2
  have k5 := clear_five h
  have kS : (Um.safeF s p b d u.length != 0) = false := by simpa using h
  clear h
  generalize Um.clearB s p b d u.length = CB at *
  generalize Um.safeF s p b d u.length = SF at *
  generalize Um.whenAll s p b d u.length = WA at *
  generalize Um.pathAll s p x u = PA at *
  cases CB
  all_goals
    go_enter Tryd.func6, Tryd.ntmps6
    go_upto_region 5 with (go_at_call 24; refine (H0 _ _ _ _ _ (((((lit_lf (by simp) (by decide) (lit_lt (2000, 1, 0, 0) (by simp) (by decide))).alloc _).alloc _).alloc _).alloc _) ((((lit_ls 0 0 (by simp) (by decide)).alloc _).alloc _).alloc _) ((lit_ls 1 2 (by simp) (by decide)).alloc _) (lit_ls 7 9 (by simp) (by decide))).out.mono ?_; rintro e wn ⟨rfl, hb⟩; replace hF := ((((((hF.alloc _).alloc _).alloc _).alloc _).alloc _).alloc _).step hb; clear hb H0 y0 y1; have y0 := (hF.below.cell (p := ⟨w.heap.size, 0, none⟩) h1).trans c0; have y1 := (hF.below.cell (p := ⟨w.heap.size, 1, none⟩) h1).trans c1)
    go_upto_region 6 with (go_at_call 24; refine (HWH _ (hF.lf hf2) (hF.ls hp2) (hF.ls hb2) (hF.ls hd2)).out.mono ?_; rintro e wn ⟨rfl, hb⟩; replace hF := hF.step hb; clear hb; clear y0 y1; have y0 := (hF.below.cell (p := ⟨w.heap.size, 0, none⟩) h1).trans c0; have y1 := (hF.below.cell (p := ⟨w.heap.size, 1, none⟩) h1).trans c1; clear HWH)
    go_upto_region 9 with (go_at_call 25; refine (HCL _ (hF.lf hf2) (hF.ls hp2) (hF.ls hb2) (hF.ls hd2)).out.mono ?_; rintro e wn ⟨rfl, hb⟩; replace hF := hF.step hb; clear hb; clear y0 y1; have y0 := (hF.below.cell (p := ⟨w.heap.size, 0, none⟩) h1).trans c0; have y1 := (hF.below.cell (p := ⟨w.heap.size, 1, none⟩) h1).trans c1; clear HCL)
    go_upto_region 11 with (go_at_call 10; refine (hid (same_any _ _ _ (hg.below (B := w.heap.size) (hBW.trans (hF.below.mono hBW.size)) hg.size))).out.mono ?_; rintro e wn ⟨rfl, hb⟩; replace hF := hF.step hb; clear hb; clear y0 y1; have y0 := (hF.below.cell (p := ⟨w.heap.size, 0, none⟩) h1).trans c0; have y1 := (hF.below.cell (p := ⟨w.heap.size, 1, none⟩) h1).trans c1)
    go_upto_region 14 with (go_at_call 26; refine (HPA _ (hF.lf hf2) (hF.ls hp2) (hF.li hx2) (hF.ll hu2)).out.mono ?_; rintro e wn ⟨r2, rfl, hpt, hb⟩; replace hF := hF.step hb; clear hb; clear y0 y1; have y0 := (hF.below.cell (p := ⟨w.heap.size, 0, none⟩) h1).trans c0; have y1 := (hF.below.cell (p := ⟨w.heap.size, 1, none⟩) h1).trans c1; obtain ⟨s2, d2, rfl, -⟩ := (id hpt); clear HPA)
    go_upto_region 17 with (go_at_call 27; refine (HHA _ (hF.ls hb2) (hF.li hx2)).out.mono ?_; rintro e wn ⟨rfl, hb⟩; replace hpt := hpt.step hb; replace hF := hF.step hb; clear hb; clear y0 y1; have y0 := (hF.below.cell (p := ⟨w.heap.size, 0, none⟩) h1).trans c0; have y1 := (hF.below.cell (p := ⟨w.heap.size, 1, none⟩) h1).trans c1; clear HHA)
    have HPT := hid hpt
    have HF0 := hid hF
    clear hpt hF k2 kS k5
    go_wp2
    go_loopw [20] (fun i wq => ∃ k : Nat, k ≤ PA.1.length ∧ i = .int .i64 k ∧ Fr wn wq []) (fun i _ => PA.1.length - (intOf i).toNat)
    case atStart => exact ⟨0, Nat.zero_le _, rfl, Fr.start _⟩
    case round =>
      obtain ⟨k, hk, rfl, hG⟩ := hrel
      have hF : Fr (w.alloc (.cells #[.slice a0 s.length cap0, .slice a1 p.length cap1] 25)) wr [] := ⟨HF0.out.below.trans (hG.below.mono HF0.out.size), by simp, List.Pairwise.nil⟩
      have y0 := (hF.below.cell (p := ⟨w.heap.size, 0, none⟩) h1).trans c0
      have y1 := (hF.below.cell (p := ⟨w.heap.size, 1, none⟩) h1).trans c1
      by_cases hkl : k < PA.1.length
      · have hkk : (k : Int) < (PA.1.length : Int) := by omega
        obtain ⟨b5, o5, c5, e5', -, l5, m5⟩ := ((HPT.out.keep hG.below).wide hG.size).open (by intro e; rw [e] at hkl; simp at hkl)
        cases e5'
        obtain ⟨x5, yp, e5⟩ := m5 k hkl
        obtain ⟨a55, c55, rfl, -⟩ := (id e5)
        obtain ⟨g1, g2⟩ := J2.out k hkl
        have HH := fun w h1 h2 => hid (bhas_any d (.slice a3 d.length cap3) (PA.1[k]?.getD []) (.slice a55 (PA.1[k]?.getD []).length c55) w h1 h2)
        rw [g1] at HH
        clear m5 J2 HPT HF0 g1
        generalize hasA d (PA.1[k]?.getD []) = TH at *
        generalize PA.1[k]?.getD [] = qk at *
        cases TH
        · clear g2
          go_wp2_with (go_at_call 27; refine (HH _ (hF.ls hd2) e5).out.mono ?_; rintro e wn ⟨rfl, hb⟩; replace hG := hG.step hb; replace hF := hF.step hb; clear hb; clear y0 y1; have y0 := (hF.below.cell (p := ⟨w.heap.size, 0, none⟩) h1).trans c0; have y1 := (hF.below.cell (p := ⟨w.heap.size, 1, none⟩) h1).trans c1; clear HH e5)
          exact ⟨⟨k + 1, by omega, by simp, hG⟩, by simp [intOf]; omega⟩
        · obtain ⟨g3, g4⟩ := g2 rfl
          first
            | (exact absurd g3 (by decide))
            | (have kn : decide ((k : Int) < WA.1) = false := decide_eq_false (by omega)
               clear g2 g3 g4
               go_wp2_with (go_at_call 27; refine (HH _ (hF.ls hd2) e5).out.mono ?_; rintro e wn ⟨rfl, hb⟩; replace hG := hG.step hb; replace hF := hF.step hb; clear hb; clear y0 y1; have y0 := (hF.below.cell (p := ⟨w.heap.size, 0, none⟩) h1).trans c0; have y1 := (hF.below.cell (p := ⟨w.heap.size, 1, none⟩) h1).trans c1; clear HH e5)
               exact ⟨⟨k + 1, by omega, by simp, hG⟩, by simp [intOf]; omega⟩)
      · obtain rfl : k = PA.1.length := by omega
        clear J2 HPT HF0 hG
        go_wp2
        go_returns
        exact ⟨rfl, hBW.trans (hF.below.mono hBW.size)⟩

theorem walk (s : List (List Um.Tm)) (v0 : Value) (p : List (Int × Int)) (v1 : Value) (b : List (Int × Int)) (v : Value) (d : List (Int × Int)) (z : Value) (x : List Int) (t : Value) (u : List (List Int)) (r : Value) (w : World) (hg : HasErr w) (hf : Lf w.heap.size w v0 s) (hp : Ls w.heap.size w v1 p) (hs : Ls w.heap.size w v b) (hd : Ls w.heap.size w z d) (hx : Li w.heap.size w t x) (hu : Ll w.heap.size w r u) :
    Calls Tryd.prog 6 #[.agg #[v0, v1], v, z, t, r] w fun e w' => e = .returned (.bool true) ∧ Below w.heap.size w w' := by
  by_cases h : Um.safeF s p b d u.length = 0
  case neg => exact walk_not s v0 p v1 b v d z x t u r w hf hp hs hd hx hu h
  by_cases h2 : (Um.pathAll s p x u).2 = 0
  case neg => exact walk_path s v0 p v1 b v d z x t u r w hg hf hp hs hd hx hu h h2
  by_cases h3 : Um.hasF b x = 0
  case neg => exact walk_has s v0 p v1 b v d z x t u r w hg hf hp hs hd hx hu h h2 h3
  cases h4 : hasA b x
  · exact walk_out s v0 p v1 b v d z x t u r w hg hf hp hs hd hx hu h h2 h3 h4
  · exact walk_in s v0 p v1 b v d z x t u r w hg hf hp hs hd hx hu h h2 h3 h4
end Go.Proofs.YtkeoafbkbblnaaaDoor.SfNever
