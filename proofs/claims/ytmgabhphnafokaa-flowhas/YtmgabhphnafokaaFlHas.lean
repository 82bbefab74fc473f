/-
  The walk over 'spanlaw2.FlowHas': for all s, b, x, push it returns true.
-/
import Derived.Test.YtmgabhphnafokaaFlow
import Derived.Test.YtmgabhphnafokaaBoxH
import Derived.Test.YtmgabhphnafokaaSysLit
import Derived.Test.YtmgabhphnafokaaMems
import Derived.Deep.CutRange
namespace Go.Proofs.Ytmgabhphnafokaa.FlHas
set_option linter.unusedSimpArgs false
open Go.RowKit

theorem box_cells (w : World) (v0 v1 : Value) (T : TypeId) : (w.alloc (.cells #[v0, v1] T)).cell? ⟨w.heap.size, 0, none⟩ = some v0 ∧ (w.alloc (.cells #[v0, v1] T)).cell? ⟨w.heap.size, 1, none⟩ = some v1 := ⟨(Blk.new w T #[v0, v1]).cell 0 rfl, (Blk.new w T #[v0, v1]).cell 1 rfl⟩
theorem fact : Um.tubeAll [[(2000, 1, 0, 0)]] [(0, 0)] [(1, 2)] 2 = ([[(1, 2)], [(2, 4)], [(4, 8)]], 0) := by decide +kernel
/-- Both are right: the boxes, the points, and each point in its box. -/
theorem stays {s : List (List Um.Tm)} {p b : List (Int × Int)} {x : List Int} {u : List (List Int)} (hp : (Um.pathAll s p x u).2 = 0) (ht : (Um.tubeAll s p b (u.length : Int)).2 = 0) (hi : hasA b x = true) :
    Um.pathAll s p x u = (Um.paths s p x u (u.length + 1), 0) ∧ Um.tubeAll s p b (u.length : Int) = (Um.tubes s p b (u.length + 1), 0) ∧ u.length ≤ 20 ∧ ∀ k, k < u.length + 1 → Um.hasF (Um.tubeN s p b k).1 (Um.pathN s p x u k).1 = 0 ∧ hasA (Um.tubeN s p b k).1 (Um.pathN s p x u k).1 = true := by
  obtain ⟨f0, f1, f2⟩ := Um.pathAll_good hp
  obtain ⟨l20, hsy, hxl⟩ := Um.pathF_ok.1 f0
  have hr : Um.readyF s p b = 0 := by
    by_cases c : Um.readyF s p b = 0
    · exact c
    · rw [Um.tubeAll_not (by omega) c] at ht; exact absurd ht c
  have tz : (Um.tubeN s p b u.length).2 = 0 := by
    by_cases c : (Um.tubeN s p b u.length).2 = 0
    · exact c
    · rw [Um.tubeAll_full l20 hr c] at ht; exact absurd ht (by decide)
  refine ⟨f2, Um.tubeAll_yes l20 hr tz, l20, fun k hk => ?_⟩
  unfold hasA at hi
  rw [Bool.and_eq_true] at hi
  have hx : Um.hasP b x := of_decide_eq_true hi.2
  have hlen : x.length = b.length := by have := (Um.ready_ok.1 hr).2.2; omega
  have k1 := Um.tube_down tz (show k ≤ u.length by omega)
  have k2 := Um.path_down f1 (show k ≤ u.length by omega)
  obtain ⟨g1, g2⟩ := Um.flow_in (u := u) hr hx hlen k1 k2
  have hb := (Um.ready_ok.1 (Um.tube_ready hr k1)).2.1
  have e : Um.hasF (Um.tubeN s p b k).1 (Um.pathN s p x u k).1 = 0 := by unfold Um.hasF; rw [if_pos hb, if_pos g2]
  refine ⟨e, ?_⟩
  unfold hasA
  rw [e]
  simp only [decide_true, Bool.true_and]
  exact decide_eq_true g1

set_option maxRecDepth 100000 in
set_option maxHeartbeats 16000000 in
theorem walk_path (s : List (List Um.Tm)) (v0 : Value) (p : List (Int × Int)) (v1 : Value) (b : List (Int × Int)) (v : Value) (x : List Int) (t : Value) (u : List (List Int)) (r : Value) (w : World) (hf : Lf w.heap.size w v0 s) (hp : Ls w.heap.size w v1 p) (hs : Ls w.heap.size w v b) (hx : Li w.heap.size w t x) (hu : Ll w.heap.size w r u) (h : ¬ (Um.pathAll s p x u).2 = 0) :
    Calls Try.prog 8 #[.agg #[v0, v1], v, t, r] w fun e w' => e = .returned (.bool true) ∧ Below w.heap.size w w' := by
  have v0 := errV_none
  have q1 := errG
  have q2 := errGn
  have q3 := errE
  have q4 := errN
  obtain ⟨a0, cap0, rfl, -⟩ := (id hf)
  obtain ⟨a1, cap1, rfl, -⟩ := (id hp)
  obtain ⟨a2, cap2, rfl, -⟩ := (id hs)
  obtain ⟨a3, cap3, rfl, -⟩ := (id hx)
  obtain ⟨a4, cap4, rfl, -⟩ := (id hu)
  have h1 : w.heap.size < (w.alloc (.cells #[.slice a0 s.length cap0, .slice a1 p.length cap1] 50)).heap.size := by simp
  have hBW : Below w.heap.size w (w.alloc (.cells #[.slice a0 s.length cap0, .slice a1 p.length cap1] 50)) := by go_grown
  obtain ⟨c0, c1⟩ := box_cells w (.slice a0 s.length cap0) (.slice a1 p.length cap1) 50
  have hF := Fr.start (w.alloc (.cells #[.slice a0 s.length cap0, .slice a1 p.length cap1] 50))
  have hf2 := hf.step hBW
  have hp2 := hp.step hBW
  have hb2 := hs.step hBW
  have hx2 := (hx.keep hBW).wide hBW.size
  have hu2 := hu.step hBW
  have H0 := fun v0 v1 v w h1 h2 h3 => hid (flRun_any [[(2000, 1, 0, 0)]] v0 [(0, 0)] v1 [(1, 2)] v 2 w h1 h2 h3)
  rw [fact] at H0
  have HPA := fun w h1 h2 h3 h4 => hid (flPath_any s (.slice a0 s.length cap0) p (.slice a1 p.length cap1) x (.slice a3 x.length cap3) u (.slice a4 u.length cap4) w h1 h2 h3 h4)
  have HRU := fun w h1 h2 h3 => hid (flRun_any s (.slice a0 s.length cap0) p (.slice a1 p.length cap1) b (.slice a2 b.length cap2) u.length w h1 h2 h3)
  have HHA := fun w h1 h2 => hid (bhas_any b (.slice a2 b.length cap2) x (.slice a3 x.length cap3) w h1 h2)
  clear hf hp hs hx hu
  have y0 := c0
  have y1 := c1
  have k : ((Um.pathAll s p x u).2 != 0) = true := by simpa using h
  clear h
  generalize Um.pathAll s p x u = P at *
  go_enter Try.func8, Try.ntmps8
  go_upto_region 5 with (go_at_call 23; refine (H0 _ _ _ _ ((((lit_lf (by simp) (by decide) (lit_lt (2000, 1, 0, 0) (by simp) (by decide))).alloc _).alloc _).alloc _) ((((lit_ls 0 0 (by simp) (by decide)).alloc _).alloc _)) (lit_ls 1 2 (by simp) (by decide))).out.mono ?_; rintro e wn ⟨r0, rfl, h9, hb⟩; replace hF := (((((hF.alloc _).alloc _).alloc _).alloc _).alloc _).step hb; clear hb H0 y0 y1; have y0 := (hF.below.cell (p := ⟨w.heap.size, 0, none⟩) h1).trans c0; have y1 := (hF.below.cell (p := ⟨w.heap.size, 1, none⟩) h1).trans c1; obtain ⟨b9, o9, c9, rfl, -, m9, q9⟩ := h9.open (by simp); obtain ⟨u9, z9, e9⟩ := q9 2 (by simp); replace e9 : Ls wn.heap.size wn u9 [(4, 8)] := e9; obtain ⟨b8, o8, c8, rfl, -, A8⟩ := e9.open (by simp); have z1 := A8.lo 0 rfl (o := o8) rfl; have z2 := A8.hi 0 rfl (o := o8 + 1) rfl; clear A8 e9 q9 h9)
  clear z1 z2 z9
  go_wp2_with (go_at_call 24; refine (HPA _ (hF.lf hf2) (hF.ls hp2) (hF.li hx2) (hF.ll hu2)).out.mono ?_; rintro e wn ⟨r1, rfl, hpt, hb⟩; replace hF := hF.step hb; clear hb; clear y0 y1; have y0 := (hF.below.cell (p := ⟨w.heap.size, 0, none⟩) h1).trans c0; have y1 := (hF.below.cell (p := ⟨w.heap.size, 1, none⟩) h1).trans c1; obtain ⟨s1, d1, rfl, -⟩ := (id hpt); clear HPA)
  go_returns
  exact ⟨rfl, hBW.trans (hF.below.mono hBW.size)⟩

set_option maxRecDepth 100000 in
set_option maxHeartbeats 16000000 in
theorem walk_tube (s : List (List Um.Tm)) (v0 : Value) (p : List (Int × Int)) (v1 : Value) (b : List (Int × Int)) (v : Value) (x : List Int) (t : Value) (u : List (List Int)) (r : Value) (w : World) (hf : Lf w.heap.size w v0 s) (hp : Ls w.heap.size w v1 p) (hs : Ls w.heap.size w v b) (hx : Li w.heap.size w t x) (hu : Ll w.heap.size w r u) (h : (Um.pathAll s p x u).2 = 0) (h2 : ¬ (Um.tubeAll s p b (u.length : Int)).2 = 0) :
    Calls Try.prog 8 #[.agg #[v0, v1], v, t, r] w fun e w' => e = .returned (.bool true) ∧ Below w.heap.size w w' := by
  have v0 := errV_none
  have q1 := errG
  have q2 := errGn
  have q3 := errE
  have q4 := errN
  obtain ⟨a0, cap0, rfl, -⟩ := (id hf)
  obtain ⟨a1, cap1, rfl, -⟩ := (id hp)
  obtain ⟨a2, cap2, rfl, -⟩ := (id hs)
  obtain ⟨a3, cap3, rfl, -⟩ := (id hx)
  obtain ⟨a4, cap4, rfl, -⟩ := (id hu)
  have h1 : w.heap.size < (w.alloc (.cells #[.slice a0 s.length cap0, .slice a1 p.length cap1] 50)).heap.size := by simp
  have hBW : Below w.heap.size w (w.alloc (.cells #[.slice a0 s.length cap0, .slice a1 p.length cap1] 50)) := by go_grown
  obtain ⟨c0, c1⟩ := box_cells w (.slice a0 s.length cap0) (.slice a1 p.length cap1) 50
  have hF := Fr.start (w.alloc (.cells #[.slice a0 s.length cap0, .slice a1 p.length cap1] 50))
  have hf2 := hf.step hBW
  have hp2 := hp.step hBW
  have hb2 := hs.step hBW
  have hx2 := (hx.keep hBW).wide hBW.size
  have hu2 := hu.step hBW
  have H0 := fun v0 v1 v w h1 h2 h3 => hid (flRun_any [[(2000, 1, 0, 0)]] v0 [(0, 0)] v1 [(1, 2)] v 2 w h1 h2 h3)
  rw [fact] at H0
  have HPA := fun w h1 h2 h3 h4 => hid (flPath_any s (.slice a0 s.length cap0) p (.slice a1 p.length cap1) x (.slice a3 x.length cap3) u (.slice a4 u.length cap4) w h1 h2 h3 h4)
  have HRU := fun w h1 h2 h3 => hid (flRun_any s (.slice a0 s.length cap0) p (.slice a1 p.length cap1) b (.slice a2 b.length cap2) u.length w h1 h2 h3)
  have HHA := fun w h1 h2 => hid (bhas_any b (.slice a2 b.length cap2) x (.slice a3 x.length cap3) w h1 h2)
  clear hf hp hs hx hu
  have y0 := c0
  have y1 := c1
  have k : ((Um.pathAll s p x u).2 != 0) = false := by simpa using h
  have k2 : ((Um.tubeAll s p b (u.length : Int)).2 != 0) = true := by simpa using h2
  clear h h2
  generalize Um.pathAll s p x u = P at *
  generalize Um.tubeAll s p b (u.length : Int) = Q at *
  go_enter Try.func8, Try.ntmps8
  go_upto_region 5 with (go_at_call 23; refine (H0 _ _ _ _ ((((lit_lf (by simp) (by decide) (lit_lt (2000, 1, 0, 0) (by simp) (by decide))).alloc _).alloc _).alloc _) ((((lit_ls 0 0 (by simp) (by decide)).alloc _).alloc _)) (lit_ls 1 2 (by simp) (by decide))).out.mono ?_; rintro e wn ⟨r0, rfl, h9, hb⟩; replace hF := (((((hF.alloc _).alloc _).alloc _).alloc _).alloc _).step hb; clear hb H0 y0 y1; have y0 := (hF.below.cell (p := ⟨w.heap.size, 0, none⟩) h1).trans c0; have y1 := (hF.below.cell (p := ⟨w.heap.size, 1, none⟩) h1).trans c1; obtain ⟨b9, o9, c9, rfl, -, m9, q9⟩ := h9.open (by simp); obtain ⟨u9, z9, e9⟩ := q9 2 (by simp); replace e9 : Ls wn.heap.size wn u9 [(4, 8)] := e9; obtain ⟨b8, o8, c8, rfl, -, A8⟩ := e9.open (by simp); have z1 := A8.lo 0 rfl (o := o8) rfl; have z2 := A8.hi 0 rfl (o := o8 + 1) rfl; clear A8 e9 q9 h9)
  clear z1 z2 z9
  go_upto_region 8 with (go_at_call 24; refine (HPA _ (hF.lf hf2) (hF.ls hp2) (hF.li hx2) (hF.ll hu2)).out.mono ?_; rintro e wn ⟨r1, rfl, hpt, hb⟩; replace hF := hF.step hb; clear hb; clear y0 y1; have y0 := (hF.below.cell (p := ⟨w.heap.size, 0, none⟩) h1).trans c0; have y1 := (hF.below.cell (p := ⟨w.heap.size, 1, none⟩) h1).trans c1; obtain ⟨s1, d1, rfl, -⟩ := (id hpt); clear HPA)
  go_wp2_with (go_at_call 23; refine (HRU _ (hF.lf hf2) (hF.ls hp2) (hF.ls hb2)).out.mono ?_; rintro e wn ⟨r2, rfl, htb, hb⟩; replace hpt := hpt.step hb; replace hF := hF.step hb; clear hb; clear y0 y1; have y0 := (hF.below.cell (p := ⟨w.heap.size, 0, none⟩) h1).trans c0; have y1 := (hF.below.cell (p := ⟨w.heap.size, 1, none⟩) h1).trans c1; obtain ⟨s2, d2, rfl, -⟩ := (id htb); clear HRU)
  go_returns
  exact ⟨rfl, hBW.trans (hF.below.mono hBW.size)⟩

set_option maxRecDepth 100000 in
set_option maxHeartbeats 16000000 in
theorem walk_has (s : List (List Um.Tm)) (v0 : Value) (p : List (Int × Int)) (v1 : Value) (b : List (Int × Int)) (v : Value) (x : List Int) (t : Value) (u : List (List Int)) (r : Value) (w : World) (hf : Lf w.heap.size w v0 s) (hp : Ls w.heap.size w v1 p) (hs : Ls w.heap.size w v b) (hx : Li w.heap.size w t x) (hu : Ll w.heap.size w r u) (h : (Um.pathAll s p x u).2 = 0) (h2 : (Um.tubeAll s p b (u.length : Int)).2 = 0) (h3 : ¬ Um.hasF b x = 0) :
    Calls Try.prog 8 #[.agg #[v0, v1], v, t, r] w fun e w' => e = .returned (.bool true) ∧ Below w.heap.size w w' := by
  have v0 := errV_none
  have q1 := errG
  have q2 := errGn
  have q3 := errE
  have q4 := errN
  obtain ⟨a0, cap0, rfl, -⟩ := (id hf)
  obtain ⟨a1, cap1, rfl, -⟩ := (id hp)
  obtain ⟨a2, cap2, rfl, -⟩ := (id hs)
  obtain ⟨a3, cap3, rfl, -⟩ := (id hx)
  obtain ⟨a4, cap4, rfl, -⟩ := (id hu)
  have h1 : w.heap.size < (w.alloc (.cells #[.slice a0 s.length cap0, .slice a1 p.length cap1] 50)).heap.size := by simp
  have hBW : Below w.heap.size w (w.alloc (.cells #[.slice a0 s.length cap0, .slice a1 p.length cap1] 50)) := by go_grown
  obtain ⟨c0, c1⟩ := box_cells w (.slice a0 s.length cap0) (.slice a1 p.length cap1) 50
  have hF := Fr.start (w.alloc (.cells #[.slice a0 s.length cap0, .slice a1 p.length cap1] 50))
  have hf2 := hf.step hBW
  have hp2 := hp.step hBW
  have hb2 := hs.step hBW
  have hx2 := (hx.keep hBW).wide hBW.size
  have hu2 := hu.step hBW
  have H0 := fun v0 v1 v w h1 h2 h3 => hid (flRun_any [[(2000, 1, 0, 0)]] v0 [(0, 0)] v1 [(1, 2)] v 2 w h1 h2 h3)
  rw [fact] at H0
  have HPA := fun w h1 h2 h3 h4 => hid (flPath_any s (.slice a0 s.length cap0) p (.slice a1 p.length cap1) x (.slice a3 x.length cap3) u (.slice a4 u.length cap4) w h1 h2 h3 h4)
  have HRU := fun w h1 h2 h3 => hid (flRun_any s (.slice a0 s.length cap0) p (.slice a1 p.length cap1) b (.slice a2 b.length cap2) u.length w h1 h2 h3)
  have HHA := fun w h1 h2 => hid (bhas_any b (.slice a2 b.length cap2) x (.slice a3 x.length cap3) w h1 h2)
  clear hf hp hs hx hu
  have y0 := c0
  have y1 := c1
  have k : ((Um.pathAll s p x u).2 != 0) = false := by simpa using h
  have k2 : ((Um.tubeAll s p b (u.length : Int)).2 != 0) = false := by simpa using h2
  clear h h2
  have k3 : (Um.hasF b x != 0) = true := by simpa using h3
  clear h3
  generalize Um.hasF b x = HF at *
  generalize hasA b x = I at *
  generalize Um.pathAll s p x u = P at *
  generalize Um.tubeAll s p b (u.length : Int) = Q at *
  go_enter Try.func8, Try.ntmps8
  go_upto_region 5 with (go_at_call 23; refine (H0 _ _ _ _ ((((lit_lf (by simp) (by decide) (lit_lt (2000, 1, 0, 0) (by simp) (by decide))).alloc _).alloc _).alloc _) ((((lit_ls 0 0 (by simp) (by decide)).alloc _).alloc _)) (lit_ls 1 2 (by simp) (by decide))).out.mono ?_; rintro e wn ⟨r0, rfl, h9, hb⟩; replace hF := (((((hF.alloc _).alloc _).alloc _).alloc _).alloc _).step hb; clear hb H0 y0 y1; have y0 := (hF.below.cell (p := ⟨w.heap.size, 0, none⟩) h1).trans c0; have y1 := (hF.below.cell (p := ⟨w.heap.size, 1, none⟩) h1).trans c1; obtain ⟨b9, o9, c9, rfl, -, m9, q9⟩ := h9.open (by simp); obtain ⟨u9, z9, e9⟩ := q9 2 (by simp); replace e9 : Ls wn.heap.size wn u9 [(4, 8)] := e9; obtain ⟨b8, o8, c8, rfl, -, A8⟩ := e9.open (by simp); have z1 := A8.lo 0 rfl (o := o8) rfl; have z2 := A8.hi 0 rfl (o := o8 + 1) rfl; clear A8 e9 q9 h9)
  clear z1 z2 z9
  go_upto_region 8 with (go_at_call 24; refine (HPA _ (hF.lf hf2) (hF.ls hp2) (hF.li hx2) (hF.ll hu2)).out.mono ?_; rintro e wn ⟨r1, rfl, hpt, hb⟩; replace hF := hF.step hb; clear hb; clear y0 y1; have y0 := (hF.below.cell (p := ⟨w.heap.size, 0, none⟩) h1).trans c0; have y1 := (hF.below.cell (p := ⟨w.heap.size, 1, none⟩) h1).trans c1; obtain ⟨s1, d1, rfl, -⟩ := (id hpt); clear HPA)
  go_upto_region 11 with (go_at_call 23; refine (HRU _ (hF.lf hf2) (hF.ls hp2) (hF.ls hb2)).out.mono ?_; rintro e wn ⟨r2, rfl, htb, hb⟩; replace hpt := hpt.step hb; replace hF := hF.step hb; clear hb; clear y0 y1; have y0 := (hF.below.cell (p := ⟨w.heap.size, 0, none⟩) h1).trans c0; have y1 := (hF.below.cell (p := ⟨w.heap.size, 1, none⟩) h1).trans c1; obtain ⟨s2, d2, rfl, -⟩ := (id htb); clear HRU)
  go_wp2_with (go_at_call 11; refine (HHA _ (hF.ls hb2) (hF.li hx2)).out.mono ?_; rintro e wn ⟨rfl, hb⟩; replace hpt := hpt.step hb; replace htb := htb.step hb; replace hF := hF.step hb; clear hb; clear y0 y1; have y0 := (hF.below.cell (p := ⟨w.heap.size, 0, none⟩) h1).trans c0; have y1 := (hF.below.cell (p := ⟨w.heap.size, 1, none⟩) h1).trans c1; clear HHA)
  go_returns
  exact ⟨rfl, hBW.trans (hF.below.mono hBW.size)⟩

set_option maxRecDepth 100000 in
set_option maxHeartbeats 16000000 in
theorem walk_out (s : List (List Um.Tm)) (v0 : Value) (p : List (Int × Int)) (v1 : Value) (b : List (Int × Int)) (v : Value) (x : List Int) (t : Value) (u : List (List Int)) (r : Value) (w : World) (hf : Lf w.heap.size w v0 s) (hp : Ls w.heap.size w v1 p) (hs : Ls w.heap.size w v b) (hx : Li w.heap.size w t x) (hu : Ll w.heap.size w r u) (h : (Um.pathAll s p x u).2 = 0) (h2 : (Um.tubeAll s p b (u.length : Int)).2 = 0) (h3 : Um.hasF b x = 0) (h4 : hasA b x = false) :
    Calls Try.prog 8 #[.agg #[v0, v1], v, t, r] w fun e w' => e = .returned (.bool true) ∧ Below w.heap.size w w' := by
  have v0 := errV_none
  have q1 := errG
  have q2 := errGn
  have q3 := errE
  have q4 := errN
  obtain ⟨a0, cap0, rfl, -⟩ := (id hf)
  obtain ⟨a1, cap1, rfl, -⟩ := (id hp)
  obtain ⟨a2, cap2, rfl, -⟩ := (id hs)
  obtain ⟨a3, cap3, rfl, -⟩ := (id hx)
  obtain ⟨a4, cap4, rfl, -⟩ := (id hu)
  have h1 : w.heap.size < (w.alloc (.cells #[.slice a0 s.length cap0, .slice a1 p.length cap1] 50)).heap.size := by simp
  have hBW : Below w.heap.size w (w.alloc (.cells #[.slice a0 s.length cap0, .slice a1 p.length cap1] 50)) := by go_grown
  obtain ⟨c0, c1⟩ := box_cells w (.slice a0 s.length cap0) (.slice a1 p.length cap1) 50
  have hF := Fr.start (w.alloc (.cells #[.slice a0 s.length cap0, .slice a1 p.length cap1] 50))
  have hf2 := hf.step hBW
  have hp2 := hp.step hBW
  have hb2 := hs.step hBW
  have hx2 := (hx.keep hBW).wide hBW.size
  have hu2 := hu.step hBW
  have H0 := fun v0 v1 v w h1 h2 h3 => hid (flRun_any [[(2000, 1, 0, 0)]] v0 [(0, 0)] v1 [(1, 2)] v 2 w h1 h2 h3)
  rw [fact] at H0
  have HPA := fun w h1 h2 h3 h4 => hid (flPath_any s (.slice a0 s.length cap0) p (.slice a1 p.length cap1) x (.slice a3 x.length cap3) u (.slice a4 u.length cap4) w h1 h2 h3 h4)
  have HRU := fun w h1 h2 h3 => hid (flRun_any s (.slice a0 s.length cap0) p (.slice a1 p.length cap1) b (.slice a2 b.length cap2) u.length w h1 h2 h3)
  have HHA := fun w h1 h2 => hid (bhas_any b (.slice a2 b.length cap2) x (.slice a3 x.length cap3) w h1 h2)
  clear hf hp hs hx hu
  have y0 := c0
  have y1 := c1
  have k : ((Um.pathAll s p x u).2 != 0) = false := by simpa using h
  have k2 : ((Um.tubeAll s p b (u.length : Int)).2 != 0) = false := by simpa using h2
  clear h h2
  rw [h3, h4] at HHA
  clear h3 h4
  generalize Um.pathAll s p x u = P at *
  generalize Um.tubeAll s p b (u.length : Int) = Q at *
  go_enter Try.func8, Try.ntmps8
  go_upto_region 5 with (go_at_call 23; refine (H0 _ _ _ _ ((((lit_lf (by simp) (by decide) (lit_lt (2000, 1, 0, 0) (by simp) (by decide))).alloc _).alloc _).alloc _) ((((lit_ls 0 0 (by simp) (by decide)).alloc _).alloc _)) (lit_ls 1 2 (by simp) (by decide))).out.mono ?_; rintro e wn ⟨r0, rfl, h9, hb⟩; replace hF := (((((hF.alloc _).alloc _).alloc _).alloc _).alloc _).step hb; clear hb H0 y0 y1; have y0 := (hF.below.cell (p := ⟨w.heap.size, 0, none⟩) h1).trans c0; have y1 := (hF.below.cell (p := ⟨w.heap.size, 1, none⟩) h1).trans c1; obtain ⟨b9, o9, c9, rfl, -, m9, q9⟩ := h9.open (by simp); obtain ⟨u9, z9, e9⟩ := q9 2 (by simp); replace e9 : Ls wn.heap.size wn u9 [(4, 8)] := e9; obtain ⟨b8, o8, c8, rfl, -, A8⟩ := e9.open (by simp); have z1 := A8.lo 0 rfl (o := o8) rfl; have z2 := A8.hi 0 rfl (o := o8 + 1) rfl; clear A8 e9 q9 h9)
  clear z1 z2 z9
  go_upto_region 8 with (go_at_call 24; refine (HPA _ (hF.lf hf2) (hF.ls hp2) (hF.li hx2) (hF.ll hu2)).out.mono ?_; rintro e wn ⟨r1, rfl, hpt, hb⟩; replace hF := hF.step hb; clear hb; clear y0 y1; have y0 := (hF.below.cell (p := ⟨w.heap.size, 0, none⟩) h1).trans c0; have y1 := (hF.below.cell (p := ⟨w.heap.size, 1, none⟩) h1).trans c1; obtain ⟨s1, d1, rfl, -⟩ := (id hpt); clear HPA)
  go_upto_region 11 with (go_at_call 23; refine (HRU _ (hF.lf hf2) (hF.ls hp2) (hF.ls hb2)).out.mono ?_; rintro e wn ⟨r2, rfl, htb, hb⟩; replace hpt := hpt.step hb; replace hF := hF.step hb; clear hb; clear y0 y1; have y0 := (hF.below.cell (p := ⟨w.heap.size, 0, none⟩) h1).trans c0; have y1 := (hF.below.cell (p := ⟨w.heap.size, 1, none⟩) h1).trans c1; obtain ⟨s2, d2, rfl, -⟩ := (id htb); clear HRU)
  go_wp2_with (go_at_call 11; refine (HHA _ (hF.ls hb2) (hF.li hx2)).out.mono ?_; rintro e wn ⟨rfl, hb⟩; replace hpt := hpt.step hb; replace htb := htb.step hb; replace hF := hF.step hb; clear hb; clear y0 y1; have y0 := (hF.below.cell (p := ⟨w.heap.size, 0, none⟩) h1).trans c0; have y1 := (hF.below.cell (p := ⟨w.heap.size, 1, none⟩) h1).trans c1; clear HHA)
  go_returns
  exact ⟨rfl, hBW.trans (hF.below.mono hBW.size)⟩

set_option maxRecDepth 100000 in
set_option maxHeartbeats 16000000 in
theorem walk_in (s : List (List Um.Tm)) (v0 : Value) (p : List (Int × Int)) (v1 : Value) (b : List (Int × Int)) (v : Value) (x : List Int) (t : Value) (u : List (List Int)) (r : Value) (w : World) (hf : Lf w.heap.size w v0 s) (hp : Ls w.heap.size w v1 p) (hs : Ls w.heap.size w v b) (hx : Li w.heap.size w t x) (hu : Ll w.heap.size w r u) (h : (Um.pathAll s p x u).2 = 0) (h2 : (Um.tubeAll s p b (u.length : Int)).2 = 0) (h3 : Um.hasF b x = 0) (h4 : hasA b x = true) :
    Calls Try.prog 8 #[.agg #[v0, v1], v, t, r] w fun e w' => e = .returned (.bool true) ∧ Below w.heap.size w w' := by
  have hmx : Try.prog.follows .mixedOrders = true := by kernel_rfl
  obtain ⟨j1, j2, j3, j4⟩ := stays h h2 h4
  have v0 := errV_none
  have q1 := errG
  have q2 := errGn
  have q3 := errE
  have q4 := errN
  obtain ⟨a0, cap0, rfl, -⟩ := (id hf)
  obtain ⟨a1, cap1, rfl, -⟩ := (id hp)
  obtain ⟨a2, cap2, rfl, -⟩ := (id hs)
  obtain ⟨a3, cap3, rfl, -⟩ := (id hx)
  obtain ⟨a4, cap4, rfl, -⟩ := (id hu)
  have h1 : w.heap.size < (w.alloc (.cells #[.slice a0 s.length cap0, .slice a1 p.length cap1] 50)).heap.size := by simp
  have hBW : Below w.heap.size w (w.alloc (.cells #[.slice a0 s.length cap0, .slice a1 p.length cap1] 50)) := by go_grown
  obtain ⟨c0, c1⟩ := box_cells w (.slice a0 s.length cap0) (.slice a1 p.length cap1) 50
  have hF := Fr.start (w.alloc (.cells #[.slice a0 s.length cap0, .slice a1 p.length cap1] 50))
  have hf2 := hf.step hBW
  have hp2 := hp.step hBW
  have hb2 := hs.step hBW
  have hx2 := (hx.keep hBW).wide hBW.size
  have hu2 := hu.step hBW
  have H0 := fun v0 v1 v w h1 h2 h3 => hid (flRun_any [[(2000, 1, 0, 0)]] v0 [(0, 0)] v1 [(1, 2)] v 2 w h1 h2 h3)
  rw [fact] at H0
  have HPA := fun w h1 h2 h3 h4 => hid (flPath_any s (.slice a0 s.length cap0) p (.slice a1 p.length cap1) x (.slice a3 x.length cap3) u (.slice a4 u.length cap4) w h1 h2 h3 h4)
  have HRU := fun w h1 h2 h3 => hid (flRun_any s (.slice a0 s.length cap0) p (.slice a1 p.length cap1) b (.slice a2 b.length cap2) u.length w h1 h2 h3)
  have HHA := fun w h1 h2 => hid (bhas_any b (.slice a2 b.length cap2) x (.slice a3 x.length cap3) w h1 h2)
  clear hf hp hs hx hu
  have y0 := c0
  have y1 := c1
  rw [h3, h4] at HHA
  rw [j1] at HPA
  rw [j2] at HRU
  obtain ⟨PP, hPP⟩ : ∃ PP, PP = Um.paths s p x u (u.length + 1) := ⟨_, rfl⟩
  obtain ⟨TT, hTT⟩ : ∃ TT, TT = Um.tubes s p b (u.length + 1) := ⟨_, rfl⟩
  have lP : PP.length = u.length + 1 := by rw [hPP, Um.paths_length]
  have lT : TT.length = u.length + 1 := by rw [hTT, Um.tubes_length]
  have HQ : Hid (∀ k, k < PP.length → Um.hasF (TT[k]?.getD []) (PP[k]?.getD []) = 0 ∧ hasA (TT[k]?.getD []) (PP[k]?.getD []) = true) := by
    intro k hk
    have g := j4 k (by omega)
    rw [hPP, hTT, Um.paths_get (by omega), Um.tubes_get (by omega)]
    exact g
  rw [← hPP] at HPA
  rw [← hTT] at HRU
  have HLT := hid (show TT.length = PP.length by omega)
  have k5 : ((PP.length : Int) != (TT.length : Int)) = false := by simp [lP, lT]
  have l21 : PP.length ≤ 21 := by omega
  have HP0 : Hid (PP ≠ []) := by rintro rfl; simp at lP
  have HT0 : Hid (TT ≠ []) := by rintro rfl; simp at lT
  clear h h2 h3 h4 j1 j2 j3 j4 hPP hTT lP lT
  go_enter Try.func8, Try.ntmps8
  go_upto_region 5 with (go_at_call 23; refine (H0 _ _ _ _ ((((lit_lf (by simp) (by decide) (lit_lt (2000, 1, 0, 0) (by simp) (by decide))).alloc _).alloc _).alloc _) ((((lit_ls 0 0 (by simp) (by decide)).alloc _).alloc _)) (lit_ls 1 2 (by simp) (by decide))).out.mono ?_; rintro e wn ⟨r0, rfl, h9, hb⟩; replace hF := (((((hF.alloc _).alloc _).alloc _).alloc _).alloc _).step hb; clear hb H0 y0 y1; have y0 := (hF.below.cell (p := ⟨w.heap.size, 0, none⟩) h1).trans c0; have y1 := (hF.below.cell (p := ⟨w.heap.size, 1, none⟩) h1).trans c1; obtain ⟨b9, o9, c9, rfl, -, m9, q9⟩ := h9.open (by simp); obtain ⟨u9, z9, e9⟩ := q9 2 (by simp); replace e9 : Ls wn.heap.size wn u9 [(4, 8)] := e9; obtain ⟨b8, o8, c8, rfl, -, A8⟩ := e9.open (by simp); have z1 := A8.lo 0 rfl (o := o8) rfl; have z2 := A8.hi 0 rfl (o := o8 + 1) rfl; clear A8 e9 q9 h9)
  clear z1 z2 z9
  go_upto_region 8 with (go_at_call 24; refine (HPA _ (hF.lf hf2) (hF.ls hp2) (hF.li hx2) (hF.ll hu2)).out.mono ?_; rintro e wn ⟨r1, rfl, hpt, hb⟩; replace hF := hF.step hb; clear hb; clear y0 y1; have y0 := (hF.below.cell (p := ⟨w.heap.size, 0, none⟩) h1).trans c0; have y1 := (hF.below.cell (p := ⟨w.heap.size, 1, none⟩) h1).trans c1; obtain ⟨s1, d1, rfl, -⟩ := (id hpt); clear HPA)
  go_upto_region 11 with (go_at_call 23; refine (HRU _ (hF.lf hf2) (hF.ls hp2) (hF.ls hb2)).out.mono ?_; rintro e wn ⟨r2, rfl, htb, hb⟩; replace hpt := hpt.step hb; replace hF := hF.step hb; clear hb; clear y0 y1; have y0 := (hF.below.cell (p := ⟨w.heap.size, 0, none⟩) h1).trans c0; have y1 := (hF.below.cell (p := ⟨w.heap.size, 1, none⟩) h1).trans c1; obtain ⟨s2, d2, rfl, -⟩ := (id htb); clear HRU)
  obtain ⟨b5, o5, c5, e5', -, m5', -⟩ := hpt.open HP0.out
  cases e5'
  obtain ⟨b6, o6, c6, e6', -, m6', -⟩ := htb.open HT0.out
  cases e6'
  clear m5' m6'
  go_wp2_with (go_at_call 11; refine (HHA _ (hF.ls hb2) (hF.li hx2)).out.mono ?_; rintro e wn ⟨rfl, hb⟩; replace hpt := hpt.step hb; replace htb := htb.step hb; replace hF := hF.step hb; clear hb; clear y0 y1; have y0 := (hF.below.cell (p := ⟨w.heap.size, 0, none⟩) h1).trans c0; have y1 := (hF.below.cell (p := ⟨w.heap.size, 1, none⟩) h1).trans c1; clear HHA)
  obtain ⟨_, _, _, e5', -, m5, n5⟩ := hpt.open HP0.out
  cases e5'
  obtain ⟨_, _, _, e6', -, m6, n6⟩ := htb.open HT0.out
  cases e6'
  have N5 := hid n5
  have N6 := hid n6
  have HFX := hid hF
  clear n5 n6 hpt htb hF y0 y1 HP0 HT0
  have hG := Fr.start wn
  go_loopw [16] (fun i wq => ∃ k : Nat, k ≤ PP.length ∧ i = .int .i64 k ∧ Fr wn wq []) (fun i _ => PP.length - (intOf i).toNat)
  case atStart => exact ⟨0, Nat.zero_le _, rfl, hG⟩
  case round =>
    clear hG
    obtain ⟨k, hk, rfl, hG⟩ := hrel
    by_cases hkl : k < PP.length
    · have hkk : (k : Int) < (PP.length : Int) := by omega
      have hkt : (k : Int) < (TT.length : Int) := by have := HLT.out; omega
      obtain ⟨x5, p5, e5⟩ := N5.out k hkl
      obtain ⟨x6, p6, e6⟩ := N6.out k (by have := HLT.out; omega)
      have y5 := (hG.below.cell (p := ⟨b5, o5 + k, none⟩) m5).trans p5
      have y6 := (hG.below.cell (p := ⟨b6, o6 + k, none⟩) m6).trans p6
      have hk5 : b5 < wr.heap.size := Nat.lt_of_lt_of_le m5 hG.size
      have hk6 : b6 < wr.heap.size := Nat.lt_of_lt_of_le m6 hG.size
      replace e5 := (e5.keep hG.below).wide hG.size
      replace e6 := (e6.keep hG.below).wide hG.size
      have HS := fun w h1 h2 => hid (bhas_any (TT[k]?.getD []) x6 (PP[k]?.getD []) x5 w h1 h2)
      rw [(HQ.out k hkl).1, (HQ.out k hkl).2] at HS
      clear N5 N6 HQ p5 p6
      generalize PP[k]?.getD [] = pk at *
      generalize TT[k]?.getD [] = tk at *
      go_wp2
      obtain ⟨Inv, hInv⟩ : ∃ Inv : Array Bool → Act → World → Prop, ∀ listed aq W', Inv listed aq W' ↔ (∃ v116 v117 v118 v119 v120 v121 v122 v123 v124 v115 v125 v126 v17 v18 : Value, aq = { tmps := #[Value.agg #[Value.slice a0 s.length cap0, Value.slice a1 p.length cap1], Value.slice a2 b.length cap2, Value.slice a3 x.length cap3, Value.slice a4 u.length cap4, Value.pointer (some { block := w.heap.size, off := 0 }), undef, undef, undef, u8, Value.pointer (some { block := w.heap.size + 1 + 1 + 1 + 1, off := 0 }), Value.slice (some { block := b9, off := o9 }) 3 c9, Value.nilIface, Value.slice (some { block := b5, off := o5 }) PP.length d1, Value.nilIface, Value.slice (some { block := b6, off := o6 }) TT.length d2, Value.bool true, Value.int IntKind.i64 ↑k, v17, v18, Value.agg #[Value.int IntKind.i64 1, Value.int IntKind.i64 0, Value.int IntKind.i64 0], Value.agg #[Value.int IntKind.i64 2000, Value.int IntKind.i64 1, Value.int IntKind.i64 0, Value.int IntKind.i64 0], Value.slice (some { block := w.heap.size + 1, off := 0 }) 1 1, Value.slice (some { block := w.heap.size + 1 + 1, off := 0 }) 1 1, Value.agg #[Value.int IntKind.i64 0, Value.int IntKind.i64 0], Value.slice (some { block := w.heap.size + 1 + 1 + 1, off := 0 }) 1 1, Value.agg #[Value.slice (some { block := w.heap.size + 1 + 1, off := 0 }) 1 1, Value.slice (some { block := w.heap.size + 1 + 1 + 1, off := 0 }) 1 1], Value.tuple #[Value.slice (some { block := b9, off := o9 }) 3 c9, Value.nilIface], Value.agg #[Value.slice (some { block := w.heap.size + 1 + 1, off := 0 }) 1 1, Value.slice (some { block := w.heap.size + 1 + 1 + 1, off := 0 }) 1 1], Value.agg #[Value.int IntKind.i64 1, Value.int IntKind.i64 2], Value.slice (some { block := w.heap.size + 1 + 1 + 1 + 1 + 1, off := 0 }) 1 1, Value.tuple #[Value.slice (some { block := b9, off := o9 }) 3 c9, Value.nilIface], Value.slice (some { block := b9, off := o9 }) 3 c9, Value.nilIface, Value.nilIface, Value.bool false, Value.bool false, Value.slice (some { block := b9, off := o9 }) 3 c9, Value.int IntKind.i64 3, Value.bool false, Value.bool false, Value.bool false, Value.slice (some { block := b9, off := o9 }) 3 c9, Value.pointer (some { block := b9, off := o9 + 2 }), Value.slice (some { block := b8, off := o8 }) 1 c8, Value.int IntKind.i64 1, Value.bool false, Value.bool false, Value.bool false, Value.slice (some { block := b9, off := o9 }) 3 c9, Value.pointer (some { block := b9, off := o9 + 2 }), Value.slice (some { block := b8, off := o8 }) 1 c8, Value.pointer (some { block := b8, off := o8 }), Value.pointer (some { block := b8, off := o8 }), Value.int IntKind.i64 4, Value.bool false, Value.bool false, Value.bool false, Value.slice (some { block := b9, off := o9 }) 3 c9, Value.pointer (some { block := b9, off := o9 + 2 }), Value.slice (some { block := b8, off := o8 }) 1 c8, Value.pointer (some { block := b8, off := o8 }), Value.pointer (some { block := b8, off := o8 + 1 }), Value.int IntKind.i64 8, Value.bool false, Value.bool false, Value.tuple #[Value.slice (some { block := b5, off := o5 }) PP.length d1, Value.nilIface], Value.agg #[Value.slice a0 s.length cap0, Value.slice a1 p.length cap1], Value.slice a3 x.length cap3, Value.slice a4 u.length cap4, Value.tuple #[Value.slice (some { block := b5, off := o5 }) PP.length d1, Value.nilIface], Value.slice (some { block := b5, off := o5 }) PP.length d1, Value.nilIface, Value.nilIface, Value.bool false, Value.tuple #[Value.slice (some { block := b6, off := o6 }) TT.length d2, Value.nilIface], Value.agg #[Value.slice a0 s.length cap0, Value.slice a1 p.length cap1], Value.slice a2 b.length cap2, Value.slice a4 u.length cap4, Value.int IntKind.i64 ↑u.length, Value.tuple #[Value.slice (some { block := b6, off := o6 }) TT.length d2, Value.nilIface], Value.slice (some { block := b6, off := o6 }) TT.length d2, Value.nilIface, Value.nilIface, Value.bool false, Value.tuple #[Value.bool true, Value.nilIface], Value.slice a2 b.length cap2, Value.slice a3 x.length cap3, Value.tuple #[Value.bool true, Value.nilIface], Value.bool true, Value.nilIface, Value.nilIface, Value.bool false, Value.bool false, Value.bool true, Value.bool false, Value.bool false, Value.bool false, Value.slice (some { block := b5, off := o5 }) PP.length d1, Value.int IntKind.i64 ↑PP.length, Value.slice (some { block := b6, off := o6 }) TT.length d2, Value.int IntKind.i64 ↑TT.length, Value.bool false, Value.bool false, undef, undef, undef, undef, undef, undef, Value.int IntKind.i64 ↑k, Value.slice (some { block := b5, off := o5 }) PP.length d1, Value.int IntKind.i64 ↑PP.length, Value.bool true, u113, u114, v115, v116, v117, v118, v119, v120, v121, v122, v123, v124, v125, v126, u127, u128, u129, u130, u131, u132], defers := [] } ∧ Below (wr).heap.size (wr) W' ∧ (listed.getD 0 false = true → v116 = Value.slice (some { block := b6, off := o6 }) TT.length d2) ∧ (listed.getD 1 false = true → v117 = Value.int IntKind.i64 ↑k) ∧ (listed.getD 2 false = true → v118 = .pointer (some ⟨b6, o6 + k, none⟩)) ∧ (listed.getD 3 false = true → v119 = x6) ∧ (listed.getD 4 false = true → v120 = Value.slice (some { block := b5, off := o5 }) PP.length d1) ∧ (listed.getD 5 false = true → v121 = Value.int IntKind.i64 ↑k) ∧ (listed.getD 6 false = true → v122 = .pointer (some ⟨b5, o5 + k, none⟩)) ∧ (listed.getD 7 false = true → v123 = x5) ∧ (listed.getD 8 false = true → v124 = (.tuple #[.bool true, errV 0])) ∧ (listed.getD 9 false = true → v115 = (.tuple #[.bool true, errV 0])) ∧ (listed.getD 10 false = true → v125 = .bool true) ∧ (listed.getD 11 false = true → v126 = errV 0) ∧ (listed.getD 12 false = true → v17 = .bool true) ∧ (listed.getD 13 false = true → v18 = errV 0)) := ⟨_, fun _ _ _ => Iff.rfl⟩
      have HI := hid hInv
      clear hInv
      refine Free.region hmx (by kernel_rfl) Inv ?s1 ?s2 ?s3
      case s1 =>
        exact (HI.out _ _ _).2 ⟨u116, u117, u118, u119, u120, u121, u122, u123, u124, u115, u125, u126, u17, u18, rfl, (Below.refl _ _).drew, Free.not_yet, Free.not_yet, Free.not_yet, Free.not_yet, Free.not_yet, Free.not_yet, Free.not_yet, Free.not_yet, Free.not_yet, Free.not_yet, Free.not_yet, Free.not_yet, Free.not_yet, Free.not_yet⟩
      case s2 =>
        intro i listed aq W1 hix hne hnl hsz hv
        obtain ⟨v116, v117, v118, v119, v120, v121, v122, v123, v124, v115, v125, v126, v17, v18, rfl, hW, l0, l1, l2, l3, l4, l5, l6, l7, l8, l9, l10, l11, l12, l13⟩ := (HI.out _ _ _).1 hv
        clear hv
        replace hix : i < 14 := hix
        replace hsz : listed.size = 14 := hsz
        rcases (by omega : i = 0 ∨ i = 1 ∨ i = 2 ∨ i = 3 ∨ i = 4 ∨ i = 5 ∨ i = 6 ∨ i = 7 ∨ i = 8 ∨ i = 9 ∨ i = 10 ∨ i = 11 ∨ i = 12 ∨ i = 13) with rfl | rfl | rfl | rfl | rfl | rfl | rfl | rfl | rfl | rfl | rfl | rfl | rfl | rfl
        · refine Free.op rfl rfl (fun K hK => ?_)
          go_simp
          exact hK _ _ ((HI.out _ _ _).2 ⟨_, v117, v118, v119, v120, v121, v122, v123, v124, v115, v125, v126, v17, v18, rfl, hW, fun _ => rfl, Free.of_set (by decide) l1, Free.of_set (by decide) l2, Free.of_set (by decide) l3, Free.of_set (by decide) l4, Free.of_set (by decide) l5, Free.of_set (by decide) l6, Free.of_set (by decide) l7, Free.of_set (by decide) l8, Free.of_set (by decide) l9, Free.of_set (by decide) l10, Free.of_set (by decide) l11, Free.of_set (by decide) l12, Free.of_set (by decide) l13⟩)
        · refine Free.op rfl rfl (fun K hK => ?_)
          go_simp
          exact hK _ _ ((HI.out _ _ _).2 ⟨v116, _, v118, v119, v120, v121, v122, v123, v124, v115, v125, v126, v17, v18, rfl, hW, Free.of_set (by decide) l0, fun _ => rfl, Free.of_set (by decide) l2, Free.of_set (by decide) l3, Free.of_set (by decide) l4, Free.of_set (by decide) l5, Free.of_set (by decide) l6, Free.of_set (by decide) l7, Free.of_set (by decide) l8, Free.of_set (by decide) l9, Free.of_set (by decide) l10, Free.of_set (by decide) l11, Free.of_set (by decide) l12, Free.of_set (by decide) l13⟩)
        · refine Free.op rfl rfl (fun K hK => ?_)
          obtain rfl := l0 (hne 0 (by kernel_rfl))
          obtain rfl := l1 (hne 1 (by kernel_rfl))
          go_simp
          exact hK _ _ ((HI.out _ _ _).2 ⟨_, _, _, v119, v120, v121, v122, v123, v124, v115, v125, v126, v17, v18, rfl, hW, fun _ => rfl, fun _ => rfl, fun _ => rfl, Free.of_set (by decide) l3, Free.of_set (by decide) l4, Free.of_set (by decide) l5, Free.of_set (by decide) l6, Free.of_set (by decide) l7, Free.of_set (by decide) l8, Free.of_set (by decide) l9, Free.of_set (by decide) l10, Free.of_set (by decide) l11, Free.of_set (by decide) l12, Free.of_set (by decide) l13⟩)
        · have z := (hW.cell (p := ⟨b6, o6 + k, none⟩) hk6).trans y6
          refine Free.op rfl rfl (fun K hK => ?_)
          obtain rfl := l2 (hne 2 (by kernel_rfl))
          go_simp
          exact hK _ _ ((HI.out _ _ _).2 ⟨v116, v117, _, _, v120, v121, v122, v123, v124, v115, v125, v126, v17, v18, rfl, hW, Free.of_set (by decide) l0, Free.of_set (by decide) l1, fun _ => rfl, fun _ => rfl, Free.of_set (by decide) l4, Free.of_set (by decide) l5, Free.of_set (by decide) l6, Free.of_set (by decide) l7, Free.of_set (by decide) l8, Free.of_set (by decide) l9, Free.of_set (by decide) l10, Free.of_set (by decide) l11, Free.of_set (by decide) l12, Free.of_set (by decide) l13⟩)
        · refine Free.op rfl rfl (fun K hK => ?_)
          go_simp
          exact hK _ _ ((HI.out _ _ _).2 ⟨v116, v117, v118, v119, _, v121, v122, v123, v124, v115, v125, v126, v17, v18, rfl, hW, Free.of_set (by decide) l0, Free.of_set (by decide) l1, Free.of_set (by decide) l2, Free.of_set (by decide) l3, fun _ => rfl, Free.of_set (by decide) l5, Free.of_set (by decide) l6, Free.of_set (by decide) l7, Free.of_set (by decide) l8, Free.of_set (by decide) l9, Free.of_set (by decide) l10, Free.of_set (by decide) l11, Free.of_set (by decide) l12, Free.of_set (by decide) l13⟩)
        · refine Free.op rfl rfl (fun K hK => ?_)
          go_simp
          exact hK _ _ ((HI.out _ _ _).2 ⟨v116, v117, v118, v119, v120, _, v122, v123, v124, v115, v125, v126, v17, v18, rfl, hW, Free.of_set (by decide) l0, Free.of_set (by decide) l1, Free.of_set (by decide) l2, Free.of_set (by decide) l3, Free.of_set (by decide) l4, fun _ => rfl, Free.of_set (by decide) l6, Free.of_set (by decide) l7, Free.of_set (by decide) l8, Free.of_set (by decide) l9, Free.of_set (by decide) l10, Free.of_set (by decide) l11, Free.of_set (by decide) l12, Free.of_set (by decide) l13⟩)
        · refine Free.op rfl rfl (fun K hK => ?_)
          obtain rfl := l4 (hne 4 (by kernel_rfl))
          obtain rfl := l5 (hne 5 (by kernel_rfl))
          go_simp
          exact hK _ _ ((HI.out _ _ _).2 ⟨v116, v117, v118, v119, _, _, _, v123, v124, v115, v125, v126, v17, v18, rfl, hW, Free.of_set (by decide) l0, Free.of_set (by decide) l1, Free.of_set (by decide) l2, Free.of_set (by decide) l3, fun _ => rfl, fun _ => rfl, fun _ => rfl, Free.of_set (by decide) l7, Free.of_set (by decide) l8, Free.of_set (by decide) l9, Free.of_set (by decide) l10, Free.of_set (by decide) l11, Free.of_set (by decide) l12, Free.of_set (by decide) l13⟩)
        · have z := (hW.cell (p := ⟨b5, o5 + k, none⟩) hk5).trans y5
          refine Free.op rfl rfl (fun K hK => ?_)
          obtain rfl := l6 (hne 6 (by kernel_rfl))
          go_simp
          exact hK _ _ ((HI.out _ _ _).2 ⟨v116, v117, v118, v119, v120, v121, _, _, v124, v115, v125, v126, v17, v18, rfl, hW, Free.of_set (by decide) l0, Free.of_set (by decide) l1, Free.of_set (by decide) l2, Free.of_set (by decide) l3, Free.of_set (by decide) l4, Free.of_set (by decide) l5, fun _ => rfl, fun _ => rfl, Free.of_set (by decide) l8, Free.of_set (by decide) l9, Free.of_set (by decide) l10, Free.of_set (by decide) l11, Free.of_set (by decide) l12, Free.of_set (by decide) l13⟩)
        · refine Free.op rfl rfl (fun K hK => ?_)
          obtain rfl := l3 (hne 3 (by kernel_rfl))
          obtain rfl := l7 (hne 7 (by kernel_rfl))
          go_wp2_with (go_at_call 11; refine (HS _ ((e6.keep hW).wide hW.size) ((e5.keep hW).wide hW.size)).out.mono ?_; rintro e W3 ⟨rfl, hb⟩)
          exact (HI.out _ _ _).2 ⟨v116, v117, v118, _, v120, v121, v122, _, _, v115, v125, v126, v17, v18, rfl, hW.trans (hb.mono hW.size), Free.of_set (by decide) l0, Free.of_set (by decide) l1, Free.of_set (by decide) l2, fun _ => rfl, Free.of_set (by decide) l4, Free.of_set (by decide) l5, Free.of_set (by decide) l6, fun _ => rfl, fun _ => rfl, Free.of_set (by decide) l9, Free.of_set (by decide) l10, Free.of_set (by decide) l11, Free.of_set (by decide) l12, Free.of_set (by decide) l13⟩
        · refine Free.op rfl rfl (fun K hK => ?_)
          obtain rfl := l8 (hne 8 (by kernel_rfl))
          go_simp
          exact hK _ _ ((HI.out _ _ _).2 ⟨v116, v117, v118, v119, v120, v121, v122, v123, _, _, v125, v126, v17, v18, rfl, hW, Free.of_set (by decide) l0, Free.of_set (by decide) l1, Free.of_set (by decide) l2, Free.of_set (by decide) l3, Free.of_set (by decide) l4, Free.of_set (by decide) l5, Free.of_set (by decide) l6, Free.of_set (by decide) l7, fun _ => rfl, fun _ => rfl, Free.of_set (by decide) l10, Free.of_set (by decide) l11, Free.of_set (by decide) l12, Free.of_set (by decide) l13⟩)
        · refine Free.op rfl rfl (fun K hK => ?_)
          obtain rfl := l9 (hne 9 (by kernel_rfl))
          go_simp
          exact hK _ _ ((HI.out _ _ _).2 ⟨v116, v117, v118, v119, v120, v121, v122, v123, v124, _, _, v126, v17, v18, rfl, hW, Free.of_set (by decide) l0, Free.of_set (by decide) l1, Free.of_set (by decide) l2, Free.of_set (by decide) l3, Free.of_set (by decide) l4, Free.of_set (by decide) l5, Free.of_set (by decide) l6, Free.of_set (by decide) l7, Free.of_set (by decide) l8, fun _ => rfl, fun _ => rfl, Free.of_set (by decide) l11, Free.of_set (by decide) l12, Free.of_set (by decide) l13⟩)
        · refine Free.op rfl rfl (fun K hK => ?_)
          obtain rfl := l9 (hne 9 (by kernel_rfl))
          go_simp
          exact hK _ _ ((HI.out _ _ _).2 ⟨v116, v117, v118, v119, v120, v121, v122, v123, v124, _, v125, _, v17, v18, rfl, hW, Free.of_set (by decide) l0, Free.of_set (by decide) l1, Free.of_set (by decide) l2, Free.of_set (by decide) l3, Free.of_set (by decide) l4, Free.of_set (by decide) l5, Free.of_set (by decide) l6, Free.of_set (by decide) l7, Free.of_set (by decide) l8, fun _ => rfl, Free.of_set (by decide) l10, fun _ => rfl, Free.of_set (by decide) l12, Free.of_set (by decide) l13⟩)
        · refine Free.op rfl rfl (fun K hK => ?_)
          obtain rfl := l10 (hne 10 (by kernel_rfl))
          go_simp
          exact hK _ _ ((HI.out _ _ _).2 ⟨v116, v117, v118, v119, v120, v121, v122, v123, v124, v115, _, v126, _, v18, rfl, hW, Free.of_set (by decide) l0, Free.of_set (by decide) l1, Free.of_set (by decide) l2, Free.of_set (by decide) l3, Free.of_set (by decide) l4, Free.of_set (by decide) l5, Free.of_set (by decide) l6, Free.of_set (by decide) l7, Free.of_set (by decide) l8, Free.of_set (by decide) l9, fun _ => rfl, Free.of_set (by decide) l11, fun _ => rfl, Free.of_set (by decide) l13⟩)
        · refine Free.op rfl rfl (fun K hK => ?_)
          obtain rfl := l11 (hne 11 (by kernel_rfl))
          go_simp
          exact hK _ _ ((HI.out _ _ _).2 ⟨v116, v117, v118, v119, v120, v121, v122, v123, v124, v115, v125, _, v17, _, rfl, hW, Free.of_set (by decide) l0, Free.of_set (by decide) l1, Free.of_set (by decide) l2, Free.of_set (by decide) l3, Free.of_set (by decide) l4, Free.of_set (by decide) l5, Free.of_set (by decide) l6, Free.of_set (by decide) l7, Free.of_set (by decide) l8, Free.of_set (by decide) l9, Free.of_set (by decide) l10, fun _ => rfl, Free.of_set (by decide) l12, fun _ => rfl⟩)
      case s3 =>
        intro listed aq W1 hall hsz hv
        obtain ⟨v116, v117, v118, v119, v120, v121, v122, v123, v124, v115, v125, v126, v17, v18, rfl, hW, l0, l1, l2, l3, l4, l5, l6, l7, l8, l9, l10, l11, l12, l13⟩ := (HI.out _ _ _).1 hv
        clear hv HI
        obtain rfl := l0 (Free.listed_of hall hsz 0 (by decide))
        obtain rfl := l1 (Free.listed_of hall hsz 1 (by decide))
        obtain rfl := l2 (Free.listed_of hall hsz 2 (by decide))
        obtain rfl := l3 (Free.listed_of hall hsz 3 (by decide))
        obtain rfl := l4 (Free.listed_of hall hsz 4 (by decide))
        obtain rfl := l5 (Free.listed_of hall hsz 5 (by decide))
        obtain rfl := l6 (Free.listed_of hall hsz 6 (by decide))
        obtain rfl := l7 (Free.listed_of hall hsz 7 (by decide))
        obtain rfl := l8 (Free.listed_of hall hsz 8 (by decide))
        obtain rfl := l9 (Free.listed_of hall hsz 9 (by decide))
        obtain rfl := l10 (Free.listed_of hall hsz 10 (by decide))
        obtain rfl := l11 (Free.listed_of hall hsz 11 (by decide))
        obtain rfl := l12 (Free.listed_of hall hsz 12 (by decide))
        obtain rfl := l13 (Free.listed_of hall hsz 13 (by decide))
        clear hall hsz
        replace hG := hG.step hW
        clear hW y5 y6 e5 e6
        go_wp2
        exact ⟨⟨k + 1, by omega, by simp, hG⟩, by simp [intOf]; omega⟩

    · obtain rfl : k = PP.length := by omega
      clear N5 N6 HQ
      go_wp2
      go_returns
      have hF := HFX.out
      exact ⟨rfl, hBW.trans ((hF.below.trans (hG.below.mono hF.size)).mono hBW.size)⟩

theorem walk (s : List (List Um.Tm)) (v0 : Value) (p : List (Int × Int)) (v1 : Value) (b : List (Int × Int)) (v : Value) (x : List Int) (t : Value) (u : List (List Int)) (r : Value) (w : World) (hf : Lf w.heap.size w v0 s) (hp : Ls w.heap.size w v1 p) (hs : Ls w.heap.size w v b) (hx : Li w.heap.size w t x) (hu : Ll w.heap.size w r u) :
    Calls Try.prog 8 #[.agg #[v0, v1], v, t, r] w fun e w' => e = .returned (.bool true) ∧ Below w.heap.size w w' := by
  by_cases h : (Um.pathAll s p x u).2 = 0
  case neg => exact walk_path s v0 p v1 b v x t u r w hf hp hs hx hu h
  by_cases h2 : (Um.tubeAll s p b (u.length : Int)).2 = 0
  case neg => exact walk_tube s v0 p v1 b v x t u r w hf hp hs hx hu h h2
  by_cases h3 : Um.hasF b x = 0
  case neg => exact walk_has s v0 p v1 b v x t u r w hf hp hs hx hu h h2 h3
  cases h4 : hasA b x
  · exact walk_out s v0 p v1 b v x t u r w hf hp hs hx hu h h2 h3 h4
  · exact walk_in s v0 p v1 b v x t u r w hf hp hs hx hu h h2 h3 h4
end Go.Proofs.Ytmgabhphnafokaa.FlHas
