/-
  The walk over 'spanlaw2.StepHas': for all s, b, x, push it returns true.
-/
import Derived.Test.YtmgabhphnafokaaStep
import Derived.Test.YtmgabhphnafokaaBoxH
import Derived.Test.YtmgabhphnafokaaSysLit
import Derived.Deep.CutRange
namespace Go.Proofs.Ytmgabhphnafokaa.StHas
set_option linter.unusedSimpArgs false
open Go.RowKit

theorem box_cells (w : World) (v0 v1 : Value) (T : TypeId) : (w.alloc (.cells #[v0, v1] T)).cell? ⟨w.heap.size, 0, none⟩ = some v0 ∧ (w.alloc (.cells #[v0, v1] T)).cell? ⟨w.heap.size, 1, none⟩ = some v1 := ⟨(Blk.new w T #[v0, v1]).cell 0 rfl, (Blk.new w T #[v0, v1]).cell 1 rfl⟩
theorem fact : Um.ofAll [[(500, 1, 0, 0)]] [(-1, 1)] [(0, 4000)] = ([(-1, 2001)], 0) := by decide +kernel
theorem pt_is {f : List Um.Tm} {x : List Int} (h : (Um.ptR f x).2 = 0) : (Um.ptR f x).1 = Um.fl (Um.exS f x f.length) 1000000000 := by
  unfold Um.ptR at h ⊢
  split at h
  · rename_i c
    rw [if_pos c]
    split at h
    · rename_i m; rw [if_pos m]
    · cases h
  · cases h
theorem stays {s : List (List Um.Tm)} {p b : List (Int × Int)} {x q : List Int} (ho : (Um.ofAll s p b).2 = 0) (hi : hasA b x = true) (hm : (Um.movAll s p x q).2 = 0) : Um.hasF (Um.ofAll s p b).1 (Um.movAll s p x q).1 = 0 ∧ hasA (Um.ofAll s p b).1 (Um.movAll s p x q).1 = true := by
  obtain ⟨h0, e, h2⟩ := Um.ofAll_good ho
  obtain ⟨m0, e2, m2⟩ := Um.movAll_good hm
  obtain ⟨hsy, ⟨hx, hq⟩, hpu, hnu⟩ := Um.mov_ok.1 m0
  have hlen : x.length = b.length := by
    have := (Um.ready_ok.1 h0).2.2
    omega
  unfold hasA at hi
  rw [Bool.and_eq_true] at hi
  have hp : Um.hasP b x := of_decide_eq_true hi.2
  obtain ⟨l, g⟩ := Um.movN_ok m2
  obtain ⟨nb, nl⟩ := Um.next_box h0 h2
  rw [e, e2]
  have f0 : Um.hasF (Um.behR s p b).1 (Um.movN s x q s.length).1 = 0 := by
    unfold Um.hasF
    rw [if_pos nb, if_pos (by rw [l, nl])]
  refine ⟨f0, ?_⟩
  unfold hasA
  rw [f0]
  simp only [decide_true, Bool.true_and]
  refine decide_eq_true (Um.next_has h0 hp hlen h2 fun i hi' => ?_)
  obtain ⟨g1, g2, _⟩ := g i hi'
  obtain ⟨p1, p2⟩ := hpu i (by omega)
  exact ⟨Um.nm q i, p1, p2, by rw [g2, pt_is g1]⟩

set_option maxRecDepth 100000 in
set_option maxHeartbeats 16000000 in
theorem walk_of (s : List (List Um.Tm)) (v0 : Value) (p : List (Int × Int)) (v1 : Value) (b : List (Int × Int)) (v : Value) (x : List Int) (t : Value) (q : List Int) (r : Value) (w : World) (hf : Lf w.heap.size w v0 s) (hp : Ls w.heap.size w v1 p) (hs : Ls w.heap.size w v b) (hx : Li w.heap.size w t x) (hq : Li w.heap.size w r q) (h : ¬ (Um.ofAll s p b).2 = 0) :
    Calls Try.prog 6 #[.agg #[v0, v1], v, t, r] w fun e w' => e = .returned (.bool true) ∧ Below w.heap.size w w' := by
  have v0 := errV_none
  have q1 := errG
  have q2 := errGn
  have q3 := errE
  have q4 := errN
  obtain ⟨a0, cap0, rfl, -⟩ := (id hf)
  obtain ⟨a1, cap1, rfl, -⟩ := (id hp)
  obtain ⟨a2, cap2, rfl, -⟩ := (id hs)
  obtain ⟨a3, cap3, rfl, -⟩ := (id hx)
  obtain ⟨a4, cap4, rfl, -⟩ := (id hq)
  have h1 : w.heap.size < (w.alloc (.cells #[.slice a0 s.length cap0, .slice a1 p.length cap1] 50)).heap.size := by simp
  have hBW : Below w.heap.size w (w.alloc (.cells #[.slice a0 s.length cap0, .slice a1 p.length cap1] 50)) := by go_grown
  obtain ⟨c0, c1⟩ := box_cells w (.slice a0 s.length cap0) (.slice a1 p.length cap1) 50
  have hF := Fr.start (w.alloc (.cells #[.slice a0 s.length cap0, .slice a1 p.length cap1] 50))
  have hf2 := hf.step hBW
  have hp2 := hp.step hBW
  have hb2 := hs.step hBW
  have hx2 := (hx.keep hBW).wide hBW.size
  have hq2 := (hq.keep hBW).wide hBW.size
  have H0 := fun v0 v1 v w h1 h2 h3 => hid (sof_any [[(500, 1, 0, 0)]] v0 [(-1, 1)] v1 [(0, 4000)] v w h1 h2 h3)
  rw [fact] at H0
  have HOF := fun w h1 h2 h3 => hid (sof_any s (.slice a0 s.length cap0) p (.slice a1 p.length cap1) b (.slice a2 b.length cap2) w h1 h2 h3)
  have HHA := fun w h1 h2 => hid (bhas_any b (.slice a2 b.length cap2) x (.slice a3 x.length cap3) w h1 h2)
  have HPT := fun w h1 h2 h3 h4 => hid (spoint_any s (.slice a0 s.length cap0) p (.slice a1 p.length cap1) x (.slice a3 x.length cap3) q (.slice a4 q.length cap4) w h1 h2 h3 h4)
  have HH2 := fun u v w h1 h2 => hid (bhas_any (Um.ofAll s p b).1 u (Um.movAll s p x q).1 v w h1 h2)
  clear hf hp hs hx hq
  have y0 := c0
  have y1 := c1
  have k : ((Um.ofAll s p b).2 != 0) = true := by simpa using h
  clear h HH2
  generalize Um.ofAll s p b = O at *
  generalize Um.hasF b x = HF at *
  generalize hasA b x = I at *
  go_enter Try.func6, Try.ntmps6
  go_upto_region 5 with (go_at_call 19; refine (H0 _ _ _ _ ((((lit_lf (by simp) (by decide) (lit_lt (500, 1, 0, 0) (by simp) (by decide))).alloc _).alloc _).alloc _) ((((lit_ls (-1) 1 (by simp) (by decide)).alloc _).alloc _)) (lit_ls 0 4000 (by simp) (by decide))).out.mono ?_; rintro e wn ⟨r0, rfl, h9, hb⟩; replace hF := (((((hF.alloc _).alloc _).alloc _).alloc _).alloc _).step hb; clear hb H0 y0 y1; have y0 := (hF.below.cell (p := ⟨w.heap.size, 0, none⟩) h1).trans c0; have y1 := (hF.below.cell (p := ⟨w.heap.size, 1, none⟩) h1).trans c1; obtain ⟨b9, o9, c9, rfl, -, A9⟩ := h9.open (by simp); have z1 := A9.lo 0 rfl (o := o9) rfl; have z2 := A9.hi 0 rfl (o := o9 + 1) rfl; clear A9 h9)
  clear z1 z2
  go_wp2_with (go_at_call 19; refine (HOF _ (hF.lf hf2) (hF.ls hp2) (hF.ls hb2)).out.mono ?_; rintro e wn ⟨r1, rfl, hy, hb⟩; replace hF := hF.step hb; clear hb; clear y0 y1; have y0 := (hF.below.cell (p := ⟨w.heap.size, 0, none⟩) h1).trans c0; have y1 := (hF.below.cell (p := ⟨w.heap.size, 1, none⟩) h1).trans c1; obtain ⟨s1, d1, rfl, -⟩ := (id hy); clear HOF)
  go_returns
  exact ⟨rfl, hBW.trans (hF.below.mono hBW.size)⟩

set_option maxRecDepth 100000 in
set_option maxHeartbeats 16000000 in
theorem walk_has (s : List (List Um.Tm)) (v0 : Value) (p : List (Int × Int)) (v1 : Value) (b : List (Int × Int)) (v : Value) (x : List Int) (t : Value) (q : List Int) (r : Value) (w : World) (hf : Lf w.heap.size w v0 s) (hp : Ls w.heap.size w v1 p) (hs : Ls w.heap.size w v b) (hx : Li w.heap.size w t x) (hq : Li w.heap.size w r q) (h : (Um.ofAll s p b).2 = 0) (h2 : ¬ Um.hasF b x = 0) :
    Calls Try.prog 6 #[.agg #[v0, v1], v, t, r] w fun e w' => e = .returned (.bool true) ∧ Below w.heap.size w w' := by
  have v0 := errV_none
  have q1 := errG
  have q2 := errGn
  have q3 := errE
  have q4 := errN
  obtain ⟨a0, cap0, rfl, -⟩ := (id hf)
  obtain ⟨a1, cap1, rfl, -⟩ := (id hp)
  obtain ⟨a2, cap2, rfl, -⟩ := (id hs)
  obtain ⟨a3, cap3, rfl, -⟩ := (id hx)
  obtain ⟨a4, cap4, rfl, -⟩ := (id hq)
  have h1 : w.heap.size < (w.alloc (.cells #[.slice a0 s.length cap0, .slice a1 p.length cap1] 50)).heap.size := by simp
  have hBW : Below w.heap.size w (w.alloc (.cells #[.slice a0 s.length cap0, .slice a1 p.length cap1] 50)) := by go_grown
  obtain ⟨c0, c1⟩ := box_cells w (.slice a0 s.length cap0) (.slice a1 p.length cap1) 50
  have hF := Fr.start (w.alloc (.cells #[.slice a0 s.length cap0, .slice a1 p.length cap1] 50))
  have hf2 := hf.step hBW
  have hp2 := hp.step hBW
  have hb2 := hs.step hBW
  have hx2 := (hx.keep hBW).wide hBW.size
  have hq2 := (hq.keep hBW).wide hBW.size
  have H0 := fun v0 v1 v w h1 h2 h3 => hid (sof_any [[(500, 1, 0, 0)]] v0 [(-1, 1)] v1 [(0, 4000)] v w h1 h2 h3)
  rw [fact] at H0
  have HOF := fun w h1 h2 h3 => hid (sof_any s (.slice a0 s.length cap0) p (.slice a1 p.length cap1) b (.slice a2 b.length cap2) w h1 h2 h3)
  have HHA := fun w h1 h2 => hid (bhas_any b (.slice a2 b.length cap2) x (.slice a3 x.length cap3) w h1 h2)
  have HPT := fun w h1 h2 h3 h4 => hid (spoint_any s (.slice a0 s.length cap0) p (.slice a1 p.length cap1) x (.slice a3 x.length cap3) q (.slice a4 q.length cap4) w h1 h2 h3 h4)
  have HH2 := fun u v w h1 h2 => hid (bhas_any (Um.ofAll s p b).1 u (Um.movAll s p x q).1 v w h1 h2)
  clear hf hp hs hx hq
  have y0 := c0
  have y1 := c1
  have k : ((Um.ofAll s p b).2 != 0) = false := by simpa using h
  have k2 : (Um.hasF b x != 0) = true := by simpa using h2
  clear h h2 HH2
  generalize Um.ofAll s p b = O at *
  generalize Um.movAll s p x q = M at *
  generalize Um.hasF b x = HF at *
  generalize hasA b x = I at *
  go_enter Try.func6, Try.ntmps6
  go_upto_region 5 with (go_at_call 19; refine (H0 _ _ _ _ ((((lit_lf (by simp) (by decide) (lit_lt (500, 1, 0, 0) (by simp) (by decide))).alloc _).alloc _).alloc _) ((((lit_ls (-1) 1 (by simp) (by decide)).alloc _).alloc _)) (lit_ls 0 4000 (by simp) (by decide))).out.mono ?_; rintro e wn ⟨r0, rfl, h9, hb⟩; replace hF := (((((hF.alloc _).alloc _).alloc _).alloc _).alloc _).step hb; clear hb H0 y0 y1; have y0 := (hF.below.cell (p := ⟨w.heap.size, 0, none⟩) h1).trans c0; have y1 := (hF.below.cell (p := ⟨w.heap.size, 1, none⟩) h1).trans c1; obtain ⟨b9, o9, c9, rfl, -, A9⟩ := h9.open (by simp); have z1 := A9.lo 0 rfl (o := o9) rfl; have z2 := A9.hi 0 rfl (o := o9 + 1) rfl; clear A9 h9)
  clear z1 z2
  go_upto_region 8 with (go_at_call 19; refine (HOF _ (hF.lf hf2) (hF.ls hp2) (hF.ls hb2)).out.mono ?_; rintro e wn ⟨r1, rfl, hy, hb⟩; replace hF := hF.step hb; clear hb; clear y0 y1; have y0 := (hF.below.cell (p := ⟨w.heap.size, 0, none⟩) h1).trans c0; have y1 := (hF.below.cell (p := ⟨w.heap.size, 1, none⟩) h1).trans c1; obtain ⟨s1, d1, rfl, -⟩ := (id hy); clear HOF)
  go_wp2_with (go_at_call 11; refine (HHA _ (hF.ls hb2) (hF.li hx2)).out.mono ?_; rintro e wn ⟨rfl, hb⟩; replace hy := hy.step hb; replace hF := hF.step hb; clear hb; clear y0 y1; have y0 := (hF.below.cell (p := ⟨w.heap.size, 0, none⟩) h1).trans c0; have y1 := (hF.below.cell (p := ⟨w.heap.size, 1, none⟩) h1).trans c1; clear HHA)
  go_returns
  exact ⟨rfl, hBW.trans (hF.below.mono hBW.size)⟩

set_option maxRecDepth 100000 in
set_option maxHeartbeats 16000000 in
theorem walk_out (s : List (List Um.Tm)) (v0 : Value) (p : List (Int × Int)) (v1 : Value) (b : List (Int × Int)) (v : Value) (x : List Int) (t : Value) (q : List Int) (r : Value) (w : World) (hf : Lf w.heap.size w v0 s) (hp : Ls w.heap.size w v1 p) (hs : Ls w.heap.size w v b) (hx : Li w.heap.size w t x) (hq : Li w.heap.size w r q) (h : (Um.ofAll s p b).2 = 0) (h2 : Um.hasF b x = 0) (h3 : hasA b x = false) :
    Calls Try.prog 6 #[.agg #[v0, v1], v, t, r] w fun e w' => e = .returned (.bool true) ∧ Below w.heap.size w w' := by
  have v0 := errV_none
  have q1 := errG
  have q2 := errGn
  have q3 := errE
  have q4 := errN
  obtain ⟨a0, cap0, rfl, -⟩ := (id hf)
  obtain ⟨a1, cap1, rfl, -⟩ := (id hp)
  obtain ⟨a2, cap2, rfl, -⟩ := (id hs)
  obtain ⟨a3, cap3, rfl, -⟩ := (id hx)
  obtain ⟨a4, cap4, rfl, -⟩ := (id hq)
  have h1 : w.heap.size < (w.alloc (.cells #[.slice a0 s.length cap0, .slice a1 p.length cap1] 50)).heap.size := by simp
  have hBW : Below w.heap.size w (w.alloc (.cells #[.slice a0 s.length cap0, .slice a1 p.length cap1] 50)) := by go_grown
  obtain ⟨c0, c1⟩ := box_cells w (.slice a0 s.length cap0) (.slice a1 p.length cap1) 50
  have hF := Fr.start (w.alloc (.cells #[.slice a0 s.length cap0, .slice a1 p.length cap1] 50))
  have hf2 := hf.step hBW
  have hp2 := hp.step hBW
  have hb2 := hs.step hBW
  have hx2 := (hx.keep hBW).wide hBW.size
  have hq2 := (hq.keep hBW).wide hBW.size
  have H0 := fun v0 v1 v w h1 h2 h3 => hid (sof_any [[(500, 1, 0, 0)]] v0 [(-1, 1)] v1 [(0, 4000)] v w h1 h2 h3)
  rw [fact] at H0
  have HOF := fun w h1 h2 h3 => hid (sof_any s (.slice a0 s.length cap0) p (.slice a1 p.length cap1) b (.slice a2 b.length cap2) w h1 h2 h3)
  have HHA := fun w h1 h2 => hid (bhas_any b (.slice a2 b.length cap2) x (.slice a3 x.length cap3) w h1 h2)
  have HPT := fun w h1 h2 h3 h4 => hid (spoint_any s (.slice a0 s.length cap0) p (.slice a1 p.length cap1) x (.slice a3 x.length cap3) q (.slice a4 q.length cap4) w h1 h2 h3 h4)
  have HH2 := fun u v w h1 h2 => hid (bhas_any (Um.ofAll s p b).1 u (Um.movAll s p x q).1 v w h1 h2)
  clear hf hp hs hx hq
  have y0 := c0
  have y1 := c1
  have k : ((Um.ofAll s p b).2 != 0) = false := by simpa using h
  rw [h2, h3] at HHA
  clear h h2 h3 HH2
  generalize Um.ofAll s p b = O at *
  generalize Um.movAll s p x q = M at *
  go_enter Try.func6, Try.ntmps6
  go_upto_region 5 with (go_at_call 19; refine (H0 _ _ _ _ ((((lit_lf (by simp) (by decide) (lit_lt (500, 1, 0, 0) (by simp) (by decide))).alloc _).alloc _).alloc _) ((((lit_ls (-1) 1 (by simp) (by decide)).alloc _).alloc _)) (lit_ls 0 4000 (by simp) (by decide))).out.mono ?_; rintro e wn ⟨r0, rfl, h9, hb⟩; replace hF := (((((hF.alloc _).alloc _).alloc _).alloc _).alloc _).step hb; clear hb H0 y0 y1; have y0 := (hF.below.cell (p := ⟨w.heap.size, 0, none⟩) h1).trans c0; have y1 := (hF.below.cell (p := ⟨w.heap.size, 1, none⟩) h1).trans c1; obtain ⟨b9, o9, c9, rfl, -, A9⟩ := h9.open (by simp); have z1 := A9.lo 0 rfl (o := o9) rfl; have z2 := A9.hi 0 rfl (o := o9 + 1) rfl; clear A9 h9)
  clear z1 z2
  go_upto_region 8 with (go_at_call 19; refine (HOF _ (hF.lf hf2) (hF.ls hp2) (hF.ls hb2)).out.mono ?_; rintro e wn ⟨r1, rfl, hy, hb⟩; replace hF := hF.step hb; clear hb; clear y0 y1; have y0 := (hF.below.cell (p := ⟨w.heap.size, 0, none⟩) h1).trans c0; have y1 := (hF.below.cell (p := ⟨w.heap.size, 1, none⟩) h1).trans c1; obtain ⟨s1, d1, rfl, -⟩ := (id hy); clear HOF)
  go_wp2_with (go_at_call 11; refine (HHA _ (hF.ls hb2) (hF.li hx2)).out.mono ?_; rintro e wn ⟨rfl, hb⟩; replace hy := hy.step hb; replace hF := hF.step hb; clear hb; clear y0 y1; have y0 := (hF.below.cell (p := ⟨w.heap.size, 0, none⟩) h1).trans c0; have y1 := (hF.below.cell (p := ⟨w.heap.size, 1, none⟩) h1).trans c1; clear HHA)
  go_returns
  exact ⟨rfl, hBW.trans (hF.below.mono hBW.size)⟩

set_option maxRecDepth 100000 in
set_option maxHeartbeats 16000000 in
theorem walk_point (s : List (List Um.Tm)) (v0 : Value) (p : List (Int × Int)) (v1 : Value) (b : List (Int × Int)) (v : Value) (x : List Int) (t : Value) (q : List Int) (r : Value) (w : World) (hf : Lf w.heap.size w v0 s) (hp : Ls w.heap.size w v1 p) (hs : Ls w.heap.size w v b) (hx : Li w.heap.size w t x) (hq : Li w.heap.size w r q) (h : (Um.ofAll s p b).2 = 0) (h2 : Um.hasF b x = 0) (h3 : hasA b x = true) (h4 : ¬ (Um.movAll s p x q).2 = 0) :
    Calls Try.prog 6 #[.agg #[v0, v1], v, t, r] w fun e w' => e = .returned (.bool true) ∧ Below w.heap.size w w' := by
  have v0 := errV_none
  have q1 := errG
  have q2 := errGn
  have q3 := errE
  have q4 := errN
  obtain ⟨a0, cap0, rfl, -⟩ := (id hf)
  obtain ⟨a1, cap1, rfl, -⟩ := (id hp)
  obtain ⟨a2, cap2, rfl, -⟩ := (id hs)
  obtain ⟨a3, cap3, rfl, -⟩ := (id hx)
  obtain ⟨a4, cap4, rfl, -⟩ := (id hq)
  have h1 : w.heap.size < (w.alloc (.cells #[.slice a0 s.length cap0, .slice a1 p.length cap1] 50)).heap.size := by simp
  have hBW : Below w.heap.size w (w.alloc (.cells #[.slice a0 s.length cap0, .slice a1 p.length cap1] 50)) := by go_grown
  obtain ⟨c0, c1⟩ := box_cells w (.slice a0 s.length cap0) (.slice a1 p.length cap1) 50
  have hF := Fr.start (w.alloc (.cells #[.slice a0 s.length cap0, .slice a1 p.length cap1] 50))
  have hf2 := hf.step hBW
  have hp2 := hp.step hBW
  have hb2 := hs.step hBW
  have hx2 := (hx.keep hBW).wide hBW.size
  have hq2 := (hq.keep hBW).wide hBW.size
  have H0 := fun v0 v1 v w h1 h2 h3 => hid (sof_any [[(500, 1, 0, 0)]] v0 [(-1, 1)] v1 [(0, 4000)] v w h1 h2 h3)
  rw [fact] at H0
  have HOF := fun w h1 h2 h3 => hid (sof_any s (.slice a0 s.length cap0) p (.slice a1 p.length cap1) b (.slice a2 b.length cap2) w h1 h2 h3)
  have HHA := fun w h1 h2 => hid (bhas_any b (.slice a2 b.length cap2) x (.slice a3 x.length cap3) w h1 h2)
  have HPT := fun w h1 h2 h3 h4 => hid (spoint_any s (.slice a0 s.length cap0) p (.slice a1 p.length cap1) x (.slice a3 x.length cap3) q (.slice a4 q.length cap4) w h1 h2 h3 h4)
  have HH2 := fun u v w h1 h2 => hid (bhas_any (Um.ofAll s p b).1 u (Um.movAll s p x q).1 v w h1 h2)
  clear hf hp hs hx hq
  have y0 := c0
  have y1 := c1
  have k : ((Um.ofAll s p b).2 != 0) = false := by simpa using h
  have k4 : ((Um.movAll s p x q).2 != 0) = true := by simpa using h4
  rw [h2, h3] at HHA
  clear h h2 h3 h4 HH2
  generalize Um.ofAll s p b = O at *
  generalize Um.movAll s p x q = M at *
  go_enter Try.func6, Try.ntmps6
  go_upto_region 5 with (go_at_call 19; refine (H0 _ _ _ _ ((((lit_lf (by simp) (by decide) (lit_lt (500, 1, 0, 0) (by simp) (by decide))).alloc _).alloc _).alloc _) ((((lit_ls (-1) 1 (by simp) (by decide)).alloc _).alloc _)) (lit_ls 0 4000 (by simp) (by decide))).out.mono ?_; rintro e wn ⟨r0, rfl, h9, hb⟩; replace hF := (((((hF.alloc _).alloc _).alloc _).alloc _).alloc _).step hb; clear hb H0 y0 y1; have y0 := (hF.below.cell (p := ⟨w.heap.size, 0, none⟩) h1).trans c0; have y1 := (hF.below.cell (p := ⟨w.heap.size, 1, none⟩) h1).trans c1; obtain ⟨b9, o9, c9, rfl, -, A9⟩ := h9.open (by simp); have z1 := A9.lo 0 rfl (o := o9) rfl; have z2 := A9.hi 0 rfl (o := o9 + 1) rfl; clear A9 h9)
  clear z1 z2
  go_upto_region 8 with (go_at_call 19; refine (HOF _ (hF.lf hf2) (hF.ls hp2) (hF.ls hb2)).out.mono ?_; rintro e wn ⟨r1, rfl, hy, hb⟩; replace hF := hF.step hb; clear hb; clear y0 y1; have y0 := (hF.below.cell (p := ⟨w.heap.size, 0, none⟩) h1).trans c0; have y1 := (hF.below.cell (p := ⟨w.heap.size, 1, none⟩) h1).trans c1; obtain ⟨s1, d1, rfl, -⟩ := (id hy); clear HOF)
  go_upto_region 11 with (go_at_call 11; refine (HHA _ (hF.ls hb2) (hF.li hx2)).out.mono ?_; rintro e wn ⟨rfl, hb⟩; replace hy := hy.step hb; replace hF := hF.step hb; clear hb; clear y0 y1; have y0 := (hF.below.cell (p := ⟨w.heap.size, 0, none⟩) h1).trans c0; have y1 := (hF.below.cell (p := ⟨w.heap.size, 1, none⟩) h1).trans c1; clear HHA)
  go_wp2_with (go_at_call 20; refine (HPT _ (hF.lf hf2) (hF.ls hp2) (hF.li hx2) (hF.li hq2)).out.mono ?_; rintro e wn ⟨r2, rfl, hz, hb⟩; replace hy := hy.step hb; replace hF := hF.step hb; clear hb; clear y0 y1; have y0 := (hF.below.cell (p := ⟨w.heap.size, 0, none⟩) h1).trans c0; have y1 := (hF.below.cell (p := ⟨w.heap.size, 1, none⟩) h1).trans c1; obtain ⟨s2, d2, rfl, -⟩ := (id hz); clear HPT)
  go_returns
  exact ⟨rfl, hBW.trans (hF.below.mono hBW.size)⟩

set_option maxRecDepth 100000 in
set_option maxHeartbeats 16000000 in
theorem walk_in (s : List (List Um.Tm)) (v0 : Value) (p : List (Int × Int)) (v1 : Value) (b : List (Int × Int)) (v : Value) (x : List Int) (t : Value) (q : List Int) (r : Value) (w : World) (hf : Lf w.heap.size w v0 s) (hp : Ls w.heap.size w v1 p) (hs : Ls w.heap.size w v b) (hx : Li w.heap.size w t x) (hq : Li w.heap.size w r q) (h : (Um.ofAll s p b).2 = 0) (h2 : Um.hasF b x = 0) (h3 : hasA b x = true) (h4 : (Um.movAll s p x q).2 = 0) :
    Calls Try.prog 6 #[.agg #[v0, v1], v, t, r] w fun e w' => e = .returned (.bool true) ∧ Below w.heap.size w w' := by
  have v0 := errV_none
  have q1 := errG
  have q2 := errGn
  have q3 := errE
  have q4 := errN
  obtain ⟨a0, cap0, rfl, -⟩ := (id hf)
  obtain ⟨a1, cap1, rfl, -⟩ := (id hp)
  obtain ⟨a2, cap2, rfl, -⟩ := (id hs)
  obtain ⟨a3, cap3, rfl, -⟩ := (id hx)
  obtain ⟨a4, cap4, rfl, -⟩ := (id hq)
  have h1 : w.heap.size < (w.alloc (.cells #[.slice a0 s.length cap0, .slice a1 p.length cap1] 50)).heap.size := by simp
  have hBW : Below w.heap.size w (w.alloc (.cells #[.slice a0 s.length cap0, .slice a1 p.length cap1] 50)) := by go_grown
  obtain ⟨c0, c1⟩ := box_cells w (.slice a0 s.length cap0) (.slice a1 p.length cap1) 50
  have hF := Fr.start (w.alloc (.cells #[.slice a0 s.length cap0, .slice a1 p.length cap1] 50))
  have hf2 := hf.step hBW
  have hp2 := hp.step hBW
  have hb2 := hs.step hBW
  have hx2 := (hx.keep hBW).wide hBW.size
  have hq2 := (hq.keep hBW).wide hBW.size
  have H0 := fun v0 v1 v w h1 h2 h3 => hid (sof_any [[(500, 1, 0, 0)]] v0 [(-1, 1)] v1 [(0, 4000)] v w h1 h2 h3)
  rw [fact] at H0
  have HOF := fun w h1 h2 h3 => hid (sof_any s (.slice a0 s.length cap0) p (.slice a1 p.length cap1) b (.slice a2 b.length cap2) w h1 h2 h3)
  have HHA := fun w h1 h2 => hid (bhas_any b (.slice a2 b.length cap2) x (.slice a3 x.length cap3) w h1 h2)
  have HPT := fun w h1 h2 h3 h4 => hid (spoint_any s (.slice a0 s.length cap0) p (.slice a1 p.length cap1) x (.slice a3 x.length cap3) q (.slice a4 q.length cap4) w h1 h2 h3 h4)
  have HH2 := fun u v w h1 h2 => hid (bhas_any (Um.ofAll s p b).1 u (Um.movAll s p x q).1 v w h1 h2)
  clear hf hp hs hx hq
  have y0 := c0
  have y1 := c1
  have k : ((Um.ofAll s p b).2 != 0) = false := by simpa using h
  have k4 : ((Um.movAll s p x q).2 != 0) = false := by simpa using h4
  rw [h2, h3] at HHA
  obtain ⟨g1, g2⟩ := stays h h3 h4
  rw [g1, g2] at HH2
  clear h h2 h3 h4 g1 g2
  generalize Um.ofAll s p b = O at *
  generalize Um.movAll s p x q = M at *
  go_enter Try.func6, Try.ntmps6
  go_upto_region 5 with (go_at_call 19; refine (H0 _ _ _ _ ((((lit_lf (by simp) (by decide) (lit_lt (500, 1, 0, 0) (by simp) (by decide))).alloc _).alloc _).alloc _) ((((lit_ls (-1) 1 (by simp) (by decide)).alloc _).alloc _)) (lit_ls 0 4000 (by simp) (by decide))).out.mono ?_; rintro e wn ⟨r0, rfl, h9, hb⟩; replace hF := (((((hF.alloc _).alloc _).alloc _).alloc _).alloc _).step hb; clear hb H0 y0 y1; have y0 := (hF.below.cell (p := ⟨w.heap.size, 0, none⟩) h1).trans c0; have y1 := (hF.below.cell (p := ⟨w.heap.size, 1, none⟩) h1).trans c1; obtain ⟨b9, o9, c9, rfl, -, A9⟩ := h9.open (by simp); have z1 := A9.lo 0 rfl (o := o9) rfl; have z2 := A9.hi 0 rfl (o := o9 + 1) rfl; clear A9 h9)
  clear z1 z2
  go_upto_region 8 with (go_at_call 19; refine (HOF _ (hF.lf hf2) (hF.ls hp2) (hF.ls hb2)).out.mono ?_; rintro e wn ⟨r1, rfl, hy, hb⟩; replace hF := hF.step hb; clear hb; clear y0 y1; have y0 := (hF.below.cell (p := ⟨w.heap.size, 0, none⟩) h1).trans c0; have y1 := (hF.below.cell (p := ⟨w.heap.size, 1, none⟩) h1).trans c1; obtain ⟨s1, d1, rfl, -⟩ := (id hy); clear HOF)
  go_upto_region 11 with (go_at_call 11; refine (HHA _ (hF.ls hb2) (hF.li hx2)).out.mono ?_; rintro e wn ⟨rfl, hb⟩; replace hy := hy.step hb; replace hF := hF.step hb; clear hb; clear y0 y1; have y0 := (hF.below.cell (p := ⟨w.heap.size, 0, none⟩) h1).trans c0; have y1 := (hF.below.cell (p := ⟨w.heap.size, 1, none⟩) h1).trans c1; clear HHA)
  go_upto_region 14 with (go_at_call 20; refine (HPT _ (hF.lf hf2) (hF.ls hp2) (hF.li hx2) (hF.li hq2)).out.mono ?_; rintro e wn ⟨r2, rfl, hz, hb⟩; replace hy := hy.step hb; replace hF := hF.step hb; clear hb; clear y0 y1; have y0 := (hF.below.cell (p := ⟨w.heap.size, 0, none⟩) h1).trans c0; have y1 := (hF.below.cell (p := ⟨w.heap.size, 1, none⟩) h1).trans c1; obtain ⟨s2, d2, rfl, -⟩ := (id hz); clear HPT)
  go_wp2_with (go_at_call 11; refine (HH2 _ _ _ hy hz).out.mono ?_; rintro e wn ⟨rfl, hb⟩; replace hF := hF.step hb; clear hb; clear y0 y1; have y0 := (hF.below.cell (p := ⟨w.heap.size, 0, none⟩) h1).trans c0; have y1 := (hF.below.cell (p := ⟨w.heap.size, 1, none⟩) h1).trans c1; clear HH2)
  go_returns
  exact ⟨rfl, hBW.trans (hF.below.mono hBW.size)⟩

theorem walk (s : List (List Um.Tm)) (v0 : Value) (p : List (Int × Int)) (v1 : Value) (b : List (Int × Int)) (v : Value) (x : List Int) (t : Value) (q : List Int) (r : Value) (w : World) (hf : Lf w.heap.size w v0 s) (hp : Ls w.heap.size w v1 p) (hs : Ls w.heap.size w v b) (hx : Li w.heap.size w t x) (hq : Li w.heap.size w r q) :
    Calls Try.prog 6 #[.agg #[v0, v1], v, t, r] w fun e w' => e = .returned (.bool true) ∧ Below w.heap.size w w' := by
  by_cases h : (Um.ofAll s p b).2 = 0
  case neg => exact walk_of s v0 p v1 b v x t q r w hf hp hs hx hq h
  by_cases h2 : Um.hasF b x = 0
  case neg => exact walk_has s v0 p v1 b v x t q r w hf hp hs hx hq h h2
  cases h3 : hasA b x
  · exact walk_out s v0 p v1 b v x t q r w hf hp hs hx hq h h2 h3
  · by_cases h4 : (Um.movAll s p x q).2 = 0
    · exact walk_in s v0 p v1 b v x t q r w hf hp hs hx hq h h2 h3 h4
    · exact walk_point s v0 p v1 b v x t q r w hf hp hs hx hq h h2 h3 h4
end Go.Proofs.Ytmgabhphnafokaa.StHas
