/-
  The walk over 'spanlaw2.CoverHas': for all s, b, depth, x, push it returns true.
-/
import Derived.Test.YtkeoafbkbblnaaaStep
import Derived.Test.YtkeoafbkbblnaaaCover
import Derived.Test.YtkeoafbkbblnaaaBoxH
import Derived.Test.YtkeoafbkbblnaaaSysLit
import Derived.Deep.CutRange
namespace Go.Proofs.Ytkeoafbkbblnaaa.CvHas
set_option linter.unusedSimpArgs false
open Go.RowKit

theorem box_cells (w : World) (v0 v1 : Value) (T : TypeId) : (w.alloc (.cells #[v0, v1] T)).cell? ⟨w.heap.size, 0, none⟩ = some v0 ∧ (w.alloc (.cells #[v0, v1] T)).cell? ⟨w.heap.size, 1, none⟩ = some v1 := ⟨(Blk.new w T #[v0, v1]).cell 0 rfl, (Blk.new w T #[v0, v1]).cell 1 rfl⟩
theorem fact : Um.covAll [[(1000, 1, 0, 0), (-1000, 2, 0, 0)]] [(0, 0)] [(0, 1000)] 1 = ([(-500, 750)], 0) := by decide +kernel
theorem pt_is {f : List Um.Tm} {x : List Int} (h : (Um.ptR f x).2 = 0) : (Um.ptR f x).1 = Um.fl (Um.exS f x f.length) 1000000000 := by
  unfold Um.ptR at h ⊢
  split at h
  · rename_i c
    rw [if_pos c]
    split at h
    · rename_i m; rw [if_pos m]
    · cases h
  · cases h
theorem cov_in {s : List (List Um.Tm)} {p b : List (Int × Int)} {n : Int} (ho : (Um.ofAll s p b).2 = 0) (hc : (Um.covAll s p b n).2 = 0) : ∃ m : Nat, n = m ∧ Um.covAll s p b n = Um.covR s p b m ∧ Um.boxF (Um.covAll s p b n).1 = 0 ∧ Um.boxesF (Um.covAll s p b n).1 (Um.ofAll s p b).1 = 0 ∧ withinA (Um.covAll s p b n).1 (Um.ofAll s p b).1 = true ∧ (Um.covAll s p b n).1.length = s.length := by
  obtain ⟨h0, e, h2⟩ := Um.ofAll_good ho
  have hf : Um.covF s p b n = 0 := by
    by_cases c : Um.covF s p b n = 0
    · exact c
    · rw [Um.covAll_not c] at hc; exact absurd hc c
  obtain ⟨_, n0, n5⟩ := Um.covF_ok.1 hf
  obtain ⟨m, rfl⟩ : ∃ m : Nat, n = m := ⟨n.toNat, by omega⟩
  have e2 : Um.covAll s p b m = Um.covR s p b m := by unfold Um.covAll; rw [if_pos hf]; rfl
  obtain ⟨g1, g2, g3, g4⟩ := Um.cover_within h0 h2 m
  obtain ⟨nb, nl⟩ := Um.next_box h0 h2
  have hbx : Um.boxesF (Um.covR s p b m).1 (Um.behR s p b).1 = 0 := Um.boxes_ok.2 ⟨g2, nb, by rw [g3, nl]⟩
  refine ⟨m, rfl, e2, by rw [e2]; exact g2, by rw [e2, e]; exact hbx, ?_, by rw [e2]; exact g3⟩
  rw [e2, e]
  unfold withinA
  rw [hbx]
  simp only [decide_true, Bool.true_and]
  exact decide_eq_true g4
theorem cov_bad {s : List (List Um.Tm)} {p b : List (Int × Int)} {n : Int} (ho : (Um.ofAll s p b).2 = 0) (hc : ¬ (Um.covAll s p b n).2 = 0) : n < 0 ∨ (¬ n < 0 ∧ 5 < n) := by
  obtain ⟨h0, e, h2⟩ := Um.ofAll_good ho
  by_cases g : 0 ≤ n ∧ n ≤ 5
  · exfalso
    obtain ⟨m, rfl⟩ : ∃ m : Nat, n = m := ⟨n.toNat, by omega⟩
    have hf : Um.covF s p b m = 0 := Um.covF_ok.2 ⟨h0, g⟩
    have e2 : Um.covAll s p b m = Um.covR s p b m := by unfold Um.covAll; rw [if_pos hf]; rfl
    rw [e2] at hc
    exact hc (Um.cover_within h0 h2 m).1
  · omega
theorem stays {s : List (List Um.Tm)} {p b : List (Int × Int)} {n : Int} {x q : List Int} (ho : (Um.ofAll s p b).2 = 0) (hc : (Um.covAll s p b n).2 = 0) (hi : hasA b x = true) (hm : (Um.movAll s p x q).2 = 0) : Um.hasF (Um.covAll s p b n).1 (Um.movAll s p x q).1 = 0 ∧ hasA (Um.covAll s p b n).1 (Um.movAll s p x q).1 = true := by
  obtain ⟨h0, _, h2⟩ := Um.ofAll_good ho
  obtain ⟨m0, e2, m2⟩ := Um.movAll_good hm
  obtain ⟨hsy, ⟨hx, hq⟩, hpu, hnu⟩ := Um.mov_ok.1 m0
  have hlen : x.length = b.length := by
    have := (Um.ready_ok.1 h0).2.2
    omega
  unfold hasA at hi
  rw [Bool.and_eq_true] at hi
  have hp : Um.hasP b x := of_decide_eq_true hi.2
  obtain ⟨l, g⟩ := Um.movN_ok m2
  obtain ⟨m, _, c1, c2, _, _, c5⟩ := cov_in ho hc
  have f0 : Um.hasF (Um.covAll s p b n).1 (Um.movAll s p x q).1 = 0 := by
    unfold Um.hasF
    rw [if_pos c2, if_pos (by rw [e2, l, c5])]
  refine ⟨f0, ?_⟩
  unfold hasA
  rw [f0]
  simp only [decide_true, Bool.true_and]
  refine decide_eq_true ?_
  rw [c1, e2]
  refine Um.cover_has h0 h2 m hp hlen fun i hi' => ?_
  obtain ⟨g1, g2, _⟩ := g i hi'
  obtain ⟨p1, p2⟩ := hpu i (by omega)
  exact ⟨Um.nm q i, p1, p2, by rw [g2, pt_is g1]⟩

set_option maxRecDepth 100000 in
set_option maxHeartbeats 16000000 in
theorem walk_of (s : List (List Um.Tm)) (v0 : Value) (p : List (Int × Int)) (v1 : Value) (b : List (Int × Int)) (v : Value) (n : Int) (x : List Int) (t : Value) (q : List Int) (r : Value) (w : World) (hf : Lf w.heap.size w v0 s) (hp : Ls w.heap.size w v1 p) (hs : Ls w.heap.size w v b) (hx : Li w.heap.size w t x) (hq : Li w.heap.size w r q) (h : ¬ (Um.ofAll s p b).2 = 0) :
    Calls Try.prog 3 #[.agg #[v0, v1], v, .int .i64 n, t, r] w fun e w' => e = .returned (.bool true) ∧ Below w.heap.size w w' := by
  have v0 := errV_none
  have q1 := errG
  have q2 := errGn
  have q3 := errE
  have q4 := errN
  obtain ⟨a0, cap0, rfl, -⟩ := (id hf)
  obtain ⟨a1, cap1, rfl, -⟩ := (id hp)
  obtain ⟨a2, cap2, rfl, -⟩ := (id hs)
  obtain ⟨a3, cap3, rfl, -⟩ := (id hx)
  obtain ⟨a4, cap4, rfl, -⟩ := (id hq)
  have h1 : w.heap.size < (w.alloc (.cells #[.slice a0 s.length cap0, .slice a1 p.length cap1] 25)).heap.size := by simp
  have hBW : Below w.heap.size w (w.alloc (.cells #[.slice a0 s.length cap0, .slice a1 p.length cap1] 25)) := by go_grown
  obtain ⟨c0, c1⟩ := box_cells w (.slice a0 s.length cap0) (.slice a1 p.length cap1) 25
  have hF := Fr.start (w.alloc (.cells #[.slice a0 s.length cap0, .slice a1 p.length cap1] 25))
  have hf2 := hf.step hBW
  have hp2 := hp.step hBW
  have hb2 := hs.step hBW
  have hx2 := (hx.keep hBW).wide hBW.size
  have hq2 := (hq.keep hBW).wide hBW.size
  have H0 := fun v0 v1 v w h1 h2 h3 => hid (cvStep_any [[(1000, 1, 0, 0), (-1000, 2, 0, 0)]] v0 [(0, 0)] v1 [(0, 1000)] v 1 w h1 h2 h3)
  rw [fact] at H0
  have HOF := fun w h1 h2 h3 => hid (sof_any s (.slice a0 s.length cap0) p (.slice a1 p.length cap1) b (.slice a2 b.length cap2) w h1 h2 h3)
  have HHA := fun w h1 h2 => hid (bhas_any b (.slice a2 b.length cap2) x (.slice a3 x.length cap3) w h1 h2)
  have HPT := fun w h1 h2 h3 h4 => hid (spoint_any s (.slice a0 s.length cap0) p (.slice a1 p.length cap1) x (.slice a3 x.length cap3) q (.slice a4 q.length cap4) w h1 h2 h3 h4)
  have HCV := fun w h1 h2 h3 => hid (cvStep_any s (.slice a0 s.length cap0) p (.slice a1 p.length cap1) b (.slice a2 b.length cap2) n w h1 h2 h3)
  have HWI := fun u v w h1 h2 => hid (bwithin_any (Um.covAll s p b n).1 u (Um.ofAll s p b).1 v w h1 h2)
  have HH2 := fun u v w h1 h2 => hid (bhas_any (Um.covAll s p b n).1 u (Um.movAll s p x q).1 v w h1 h2)
  clear hf hp hs hx hq
  have y0 := c0
  have y1 := c1
  have k : ((Um.ofAll s p b).2 != 0) = true := by simpa using h
  clear h HH2 HWI HCV HHA HPT
  generalize Um.ofAll s p b = O at *
  go_enter Try.func3, Try.ntmps3
  go_upto_region 5 with (go_at_call 9; refine (H0 _ _ _ _ ((((lit_lf (by simp) (by decide) (lit_lt2 (1000, 1, 0, 0) (-1000, 2, 0, 0) (by simp) (by decide))).alloc _).alloc _).alloc _) ((((lit_ls 0 0 (by simp) (by decide)).alloc _).alloc _)) (lit_ls 0 1000 (by simp) (by decide))).out.mono ?_; rintro e wn ⟨r0, rfl, h9, hb⟩; replace hF := (((((hF.alloc _).alloc _).alloc _).alloc _).alloc _).step hb; clear hb H0 y0 y1; have y0 := (hF.below.cell (p := ⟨w.heap.size, 0, none⟩) h1).trans c0; have y1 := (hF.below.cell (p := ⟨w.heap.size, 1, none⟩) h1).trans c1; obtain ⟨b9, o9, c9, rfl, -, A9⟩ := h9.open (by simp); have z1 := A9.lo 0 rfl (o := o9) rfl; have z2 := A9.hi 0 rfl (o := o9 + 1) rfl; clear A9 h9)
  clear z1 z2
  go_wp2_with (go_at_call 10; refine (HOF _ (hF.lf hf2) (hF.ls hp2) (hF.ls hb2)).out.mono ?_; rintro e wn ⟨r1, rfl, hy, hb⟩; replace hF := hF.step hb; clear hb; clear y0 y1; have y0 := (hF.below.cell (p := ⟨w.heap.size, 0, none⟩) h1).trans c0; have y1 := (hF.below.cell (p := ⟨w.heap.size, 1, none⟩) h1).trans c1; obtain ⟨s1, d1, rfl, -⟩ := (id hy); clear HOF)
  go_returns
  exact ⟨rfl, hBW.trans (hF.below.mono hBW.size)⟩

set_option maxRecDepth 100000 in
set_option maxHeartbeats 16000000 in
theorem walk_low (s : List (List Um.Tm)) (v0 : Value) (p : List (Int × Int)) (v1 : Value) (b : List (Int × Int)) (v : Value) (n : Int) (x : List Int) (t : Value) (q : List Int) (r : Value) (w : World) (hf : Lf w.heap.size w v0 s) (hp : Ls w.heap.size w v1 p) (hs : Ls w.heap.size w v b) (hx : Li w.heap.size w t x) (hq : Li w.heap.size w r q) (h : (Um.ofAll s p b).2 = 0) (hc : ¬ (Um.covAll s p b n).2 = 0) (hn : n < 0) :
    Calls Try.prog 3 #[.agg #[v0, v1], v, .int .i64 n, t, r] w fun e w' => e = .returned (.bool true) ∧ Below w.heap.size w w' := by
  have v0 := errV_none
  have q1 := errG
  have q2 := errGn
  have q3 := errE
  have q4 := errN
  obtain ⟨a0, cap0, rfl, -⟩ := (id hf)
  obtain ⟨a1, cap1, rfl, -⟩ := (id hp)
  obtain ⟨a2, cap2, rfl, -⟩ := (id hs)
  obtain ⟨a3, cap3, rfl, -⟩ := (id hx)
  obtain ⟨a4, cap4, rfl, -⟩ := (id hq)
  have h1 : w.heap.size < (w.alloc (.cells #[.slice a0 s.length cap0, .slice a1 p.length cap1] 25)).heap.size := by simp
  have hBW : Below w.heap.size w (w.alloc (.cells #[.slice a0 s.length cap0, .slice a1 p.length cap1] 25)) := by go_grown
  obtain ⟨c0, c1⟩ := box_cells w (.slice a0 s.length cap0) (.slice a1 p.length cap1) 25
  have hF := Fr.start (w.alloc (.cells #[.slice a0 s.length cap0, .slice a1 p.length cap1] 25))
  have hf2 := hf.step hBW
  have hp2 := hp.step hBW
  have hb2 := hs.step hBW
  have hx2 := (hx.keep hBW).wide hBW.size
  have hq2 := (hq.keep hBW).wide hBW.size
  have H0 := fun v0 v1 v w h1 h2 h3 => hid (cvStep_any [[(1000, 1, 0, 0), (-1000, 2, 0, 0)]] v0 [(0, 0)] v1 [(0, 1000)] v 1 w h1 h2 h3)
  rw [fact] at H0
  have HOF := fun w h1 h2 h3 => hid (sof_any s (.slice a0 s.length cap0) p (.slice a1 p.length cap1) b (.slice a2 b.length cap2) w h1 h2 h3)
  have HHA := fun w h1 h2 => hid (bhas_any b (.slice a2 b.length cap2) x (.slice a3 x.length cap3) w h1 h2)
  have HPT := fun w h1 h2 h3 h4 => hid (spoint_any s (.slice a0 s.length cap0) p (.slice a1 p.length cap1) x (.slice a3 x.length cap3) q (.slice a4 q.length cap4) w h1 h2 h3 h4)
  have HCV := fun w h1 h2 h3 => hid (cvStep_any s (.slice a0 s.length cap0) p (.slice a1 p.length cap1) b (.slice a2 b.length cap2) n w h1 h2 h3)
  have HWI := fun u v w h1 h2 => hid (bwithin_any (Um.covAll s p b n).1 u (Um.ofAll s p b).1 v w h1 h2)
  have HH2 := fun u v w h1 h2 => hid (bhas_any (Um.covAll s p b n).1 u (Um.movAll s p x q).1 v w h1 h2)
  clear hf hp hs hx hq
  have y0 := c0
  have y1 := c1
  have k : ((Um.ofAll s p b).2 != 0) = false := by simpa using h
  have k2 : ((Um.covAll s p b n).2 != 0) = true := by simpa using hc
  have t1 : decide (n < 0) = true := decide_eq_true hn
  clear h hc hn HH2 HWI HHA HPT
  generalize Um.covAll s p b n = C at *
  generalize Um.ofAll s p b = O at *
  go_enter Try.func3, Try.ntmps3
  go_upto_region 5 with (go_at_call 9; refine (H0 _ _ _ _ ((((lit_lf (by simp) (by decide) (lit_lt2 (1000, 1, 0, 0) (-1000, 2, 0, 0) (by simp) (by decide))).alloc _).alloc _).alloc _) ((((lit_ls 0 0 (by simp) (by decide)).alloc _).alloc _)) (lit_ls 0 1000 (by simp) (by decide))).out.mono ?_; rintro e wn ⟨r0, rfl, h9, hb⟩; replace hF := (((((hF.alloc _).alloc _).alloc _).alloc _).alloc _).step hb; clear hb H0 y0 y1; have y0 := (hF.below.cell (p := ⟨w.heap.size, 0, none⟩) h1).trans c0; have y1 := (hF.below.cell (p := ⟨w.heap.size, 1, none⟩) h1).trans c1; obtain ⟨b9, o9, c9, rfl, -, A9⟩ := h9.open (by simp); have z1 := A9.lo 0 rfl (o := o9) rfl; have z2 := A9.hi 0 rfl (o := o9 + 1) rfl; clear A9 h9)
  clear z1 z2
  go_upto_region 8 with (go_at_call 10; refine (HOF _ (hF.lf hf2) (hF.ls hp2) (hF.ls hb2)).out.mono ?_; rintro e wn ⟨r1, rfl, hy, hb⟩; replace hF := hF.step hb; clear hb; clear y0 y1; have y0 := (hF.below.cell (p := ⟨w.heap.size, 0, none⟩) h1).trans c0; have y1 := (hF.below.cell (p := ⟨w.heap.size, 1, none⟩) h1).trans c1; obtain ⟨s1, d1, rfl, -⟩ := (id hy); clear HOF)
  go_wp2_with (go_at_call 9; refine (HCV _ (hF.lf hf2) (hF.ls hp2) (hF.ls hb2)).out.mono ?_; rintro e wn ⟨r5, rfl, hz, hb⟩; replace hy := hy.step hb; replace hF := hF.step hb; clear hb; clear y0 y1; have y0 := (hF.below.cell (p := ⟨w.heap.size, 0, none⟩) h1).trans c0; have y1 := (hF.below.cell (p := ⟨w.heap.size, 1, none⟩) h1).trans c1; obtain ⟨s5, d5, rfl, -⟩ := (id hz); clear HCV)
  go_returns
  exact ⟨rfl, hBW.trans (hF.below.mono hBW.size)⟩

set_option maxRecDepth 100000 in
set_option maxHeartbeats 16000000 in
theorem walk_high (s : List (List Um.Tm)) (v0 : Value) (p : List (Int × Int)) (v1 : Value) (b : List (Int × Int)) (v : Value) (n : Int) (x : List Int) (t : Value) (q : List Int) (r : Value) (w : World) (hf : Lf w.heap.size w v0 s) (hp : Ls w.heap.size w v1 p) (hs : Ls w.heap.size w v b) (hx : Li w.heap.size w t x) (hq : Li w.heap.size w r q) (h : (Um.ofAll s p b).2 = 0) (hc : ¬ (Um.covAll s p b n).2 = 0) (hn : ¬ n < 0 ∧ 5 < n) :
    Calls Try.prog 3 #[.agg #[v0, v1], v, .int .i64 n, t, r] w fun e w' => e = .returned (.bool true) ∧ Below w.heap.size w w' := by
  have v0 := errV_none
  have q1 := errG
  have q2 := errGn
  have q3 := errE
  have q4 := errN
  obtain ⟨a0, cap0, rfl, -⟩ := (id hf)
  obtain ⟨a1, cap1, rfl, -⟩ := (id hp)
  obtain ⟨a2, cap2, rfl, -⟩ := (id hs)
  obtain ⟨a3, cap3, rfl, -⟩ := (id hx)
  obtain ⟨a4, cap4, rfl, -⟩ := (id hq)
  have h1 : w.heap.size < (w.alloc (.cells #[.slice a0 s.length cap0, .slice a1 p.length cap1] 25)).heap.size := by simp
  have hBW : Below w.heap.size w (w.alloc (.cells #[.slice a0 s.length cap0, .slice a1 p.length cap1] 25)) := by go_grown
  obtain ⟨c0, c1⟩ := box_cells w (.slice a0 s.length cap0) (.slice a1 p.length cap1) 25
  have hF := Fr.start (w.alloc (.cells #[.slice a0 s.length cap0, .slice a1 p.length cap1] 25))
  have hf2 := hf.step hBW
  have hp2 := hp.step hBW
  have hb2 := hs.step hBW
  have hx2 := (hx.keep hBW).wide hBW.size
  have hq2 := (hq.keep hBW).wide hBW.size
  have H0 := fun v0 v1 v w h1 h2 h3 => hid (cvStep_any [[(1000, 1, 0, 0), (-1000, 2, 0, 0)]] v0 [(0, 0)] v1 [(0, 1000)] v 1 w h1 h2 h3)
  rw [fact] at H0
  have HOF := fun w h1 h2 h3 => hid (sof_any s (.slice a0 s.length cap0) p (.slice a1 p.length cap1) b (.slice a2 b.length cap2) w h1 h2 h3)
  have HHA := fun w h1 h2 => hid (bhas_any b (.slice a2 b.length cap2) x (.slice a3 x.length cap3) w h1 h2)
  have HPT := fun w h1 h2 h3 h4 => hid (spoint_any s (.slice a0 s.length cap0) p (.slice a1 p.length cap1) x (.slice a3 x.length cap3) q (.slice a4 q.length cap4) w h1 h2 h3 h4)
  have HCV := fun w h1 h2 h3 => hid (cvStep_any s (.slice a0 s.length cap0) p (.slice a1 p.length cap1) b (.slice a2 b.length cap2) n w h1 h2 h3)
  have HWI := fun u v w h1 h2 => hid (bwithin_any (Um.covAll s p b n).1 u (Um.ofAll s p b).1 v w h1 h2)
  have HH2 := fun u v w h1 h2 => hid (bhas_any (Um.covAll s p b n).1 u (Um.movAll s p x q).1 v w h1 h2)
  clear hf hp hs hx hq
  have y0 := c0
  have y1 := c1
  have k : ((Um.ofAll s p b).2 != 0) = false := by simpa using h
  have k2 : ((Um.covAll s p b n).2 != 0) = true := by simpa using hc
  have t1 : decide (n < 0) = false := decide_eq_false hn.1
  have t2 : decide (5 < n) = true := decide_eq_true hn.2
  clear h hc hn HH2 HWI HHA HPT
  generalize Um.covAll s p b n = C at *
  generalize Um.ofAll s p b = O at *
  go_enter Try.func3, Try.ntmps3
  go_upto_region 5 with (go_at_call 9; refine (H0 _ _ _ _ ((((lit_lf (by simp) (by decide) (lit_lt2 (1000, 1, 0, 0) (-1000, 2, 0, 0) (by simp) (by decide))).alloc _).alloc _).alloc _) ((((lit_ls 0 0 (by simp) (by decide)).alloc _).alloc _)) (lit_ls 0 1000 (by simp) (by decide))).out.mono ?_; rintro e wn ⟨r0, rfl, h9, hb⟩; replace hF := (((((hF.alloc _).alloc _).alloc _).alloc _).alloc _).step hb; clear hb H0 y0 y1; have y0 := (hF.below.cell (p := ⟨w.heap.size, 0, none⟩) h1).trans c0; have y1 := (hF.below.cell (p := ⟨w.heap.size, 1, none⟩) h1).trans c1; obtain ⟨b9, o9, c9, rfl, -, A9⟩ := h9.open (by simp); have z1 := A9.lo 0 rfl (o := o9) rfl; have z2 := A9.hi 0 rfl (o := o9 + 1) rfl; clear A9 h9)
  clear z1 z2
  go_upto_region 8 with (go_at_call 10; refine (HOF _ (hF.lf hf2) (hF.ls hp2) (hF.ls hb2)).out.mono ?_; rintro e wn ⟨r1, rfl, hy, hb⟩; replace hF := hF.step hb; clear hb; clear y0 y1; have y0 := (hF.below.cell (p := ⟨w.heap.size, 0, none⟩) h1).trans c0; have y1 := (hF.below.cell (p := ⟨w.heap.size, 1, none⟩) h1).trans c1; obtain ⟨s1, d1, rfl, -⟩ := (id hy); clear HOF)
  go_wp2_with (go_at_call 9; refine (HCV _ (hF.lf hf2) (hF.ls hp2) (hF.ls hb2)).out.mono ?_; rintro e wn ⟨r5, rfl, hz, hb⟩; replace hy := hy.step hb; replace hF := hF.step hb; clear hb; clear y0 y1; have y0 := (hF.below.cell (p := ⟨w.heap.size, 0, none⟩) h1).trans c0; have y1 := (hF.below.cell (p := ⟨w.heap.size, 1, none⟩) h1).trans c1; obtain ⟨s5, d5, rfl, -⟩ := (id hz); clear HCV)
  go_returns
  exact ⟨rfl, hBW.trans (hF.below.mono hBW.size)⟩

set_option maxRecDepth 100000 in
set_option maxHeartbeats 16000000 in
theorem walk_has (s : List (List Um.Tm)) (v0 : Value) (p : List (Int × Int)) (v1 : Value) (b : List (Int × Int)) (v : Value) (n : Int) (x : List Int) (t : Value) (q : List Int) (r : Value) (w : World) (hf : Lf w.heap.size w v0 s) (hp : Ls w.heap.size w v1 p) (hs : Ls w.heap.size w v b) (hx : Li w.heap.size w t x) (hq : Li w.heap.size w r q) (h : (Um.ofAll s p b).2 = 0) (hc : (Um.covAll s p b n).2 = 0) (h2 : ¬ Um.hasF b x = 0) :
    Calls Try.prog 3 #[.agg #[v0, v1], v, .int .i64 n, t, r] w fun e w' => e = .returned (.bool true) ∧ Below w.heap.size w w' := by
  have v0 := errV_none
  have q1 := errG
  have q2 := errGn
  have q3 := errE
  have q4 := errN
  obtain ⟨a0, cap0, rfl, -⟩ := (id hf)
  obtain ⟨a1, cap1, rfl, -⟩ := (id hp)
  obtain ⟨a2, cap2, rfl, -⟩ := (id hs)
  obtain ⟨a3, cap3, rfl, -⟩ := (id hx)
  obtain ⟨a4, cap4, rfl, -⟩ := (id hq)
  have h1 : w.heap.size < (w.alloc (.cells #[.slice a0 s.length cap0, .slice a1 p.length cap1] 25)).heap.size := by simp
  have hBW : Below w.heap.size w (w.alloc (.cells #[.slice a0 s.length cap0, .slice a1 p.length cap1] 25)) := by go_grown
  obtain ⟨c0, c1⟩ := box_cells w (.slice a0 s.length cap0) (.slice a1 p.length cap1) 25
  have hF := Fr.start (w.alloc (.cells #[.slice a0 s.length cap0, .slice a1 p.length cap1] 25))
  have hf2 := hf.step hBW
  have hp2 := hp.step hBW
  have hb2 := hs.step hBW
  have hx2 := (hx.keep hBW).wide hBW.size
  have hq2 := (hq.keep hBW).wide hBW.size
  have H0 := fun v0 v1 v w h1 h2 h3 => hid (cvStep_any [[(1000, 1, 0, 0), (-1000, 2, 0, 0)]] v0 [(0, 0)] v1 [(0, 1000)] v 1 w h1 h2 h3)
  rw [fact] at H0
  have HOF := fun w h1 h2 h3 => hid (sof_any s (.slice a0 s.length cap0) p (.slice a1 p.length cap1) b (.slice a2 b.length cap2) w h1 h2 h3)
  have HHA := fun w h1 h2 => hid (bhas_any b (.slice a2 b.length cap2) x (.slice a3 x.length cap3) w h1 h2)
  have HPT := fun w h1 h2 h3 h4 => hid (spoint_any s (.slice a0 s.length cap0) p (.slice a1 p.length cap1) x (.slice a3 x.length cap3) q (.slice a4 q.length cap4) w h1 h2 h3 h4)
  have HCV := fun w h1 h2 h3 => hid (cvStep_any s (.slice a0 s.length cap0) p (.slice a1 p.length cap1) b (.slice a2 b.length cap2) n w h1 h2 h3)
  have HWI := fun u v w h1 h2 => hid (bwithin_any (Um.covAll s p b n).1 u (Um.ofAll s p b).1 v w h1 h2)
  have HH2 := fun u v w h1 h2 => hid (bhas_any (Um.covAll s p b n).1 u (Um.movAll s p x q).1 v w h1 h2)
  clear hf hp hs hx hq
  have y0 := c0
  have y1 := c1
  have k : ((Um.ofAll s p b).2 != 0) = false := by simpa using h
  have k2 : ((Um.covAll s p b n).2 != 0) = false := by simpa using hc
  obtain ⟨m, -, -, -, w1, w2, -⟩ := cov_in h hc
  rw [w1, w2] at HWI
  have k3 : (Um.hasF b x != 0) = true := by simpa using h2
  clear h h2 hc w1 w2 HH2 HPT
  generalize Um.covAll s p b n = C at *
  generalize Um.ofAll s p b = O at *
  generalize Um.hasF b x = HF at *
  generalize hasA b x = I at *
  go_enter Try.func3, Try.ntmps3
  go_upto_region 5 with (go_at_call 9; refine (H0 _ _ _ _ ((((lit_lf (by simp) (by decide) (lit_lt2 (1000, 1, 0, 0) (-1000, 2, 0, 0) (by simp) (by decide))).alloc _).alloc _).alloc _) ((((lit_ls 0 0 (by simp) (by decide)).alloc _).alloc _)) (lit_ls 0 1000 (by simp) (by decide))).out.mono ?_; rintro e wn ⟨r0, rfl, h9, hb⟩; replace hF := (((((hF.alloc _).alloc _).alloc _).alloc _).alloc _).step hb; clear hb H0 y0 y1; have y0 := (hF.below.cell (p := ⟨w.heap.size, 0, none⟩) h1).trans c0; have y1 := (hF.below.cell (p := ⟨w.heap.size, 1, none⟩) h1).trans c1; obtain ⟨b9, o9, c9, rfl, -, A9⟩ := h9.open (by simp); have z1 := A9.lo 0 rfl (o := o9) rfl; have z2 := A9.hi 0 rfl (o := o9 + 1) rfl; clear A9 h9)
  clear z1 z2
  go_upto_region 8 with (go_at_call 10; refine (HOF _ (hF.lf hf2) (hF.ls hp2) (hF.ls hb2)).out.mono ?_; rintro e wn ⟨r1, rfl, hy, hb⟩; replace hF := hF.step hb; clear hb; clear y0 y1; have y0 := (hF.below.cell (p := ⟨w.heap.size, 0, none⟩) h1).trans c0; have y1 := (hF.below.cell (p := ⟨w.heap.size, 1, none⟩) h1).trans c1; obtain ⟨s1, d1, rfl, -⟩ := (id hy); clear HOF)
  go_upto_region 11 with (go_at_call 9; refine (HCV _ (hF.lf hf2) (hF.ls hp2) (hF.ls hb2)).out.mono ?_; rintro e wn ⟨r5, rfl, hz, hb⟩; replace hy := hy.step hb; replace hF := hF.step hb; clear hb; clear y0 y1; have y0 := (hF.below.cell (p := ⟨w.heap.size, 0, none⟩) h1).trans c0; have y1 := (hF.below.cell (p := ⟨w.heap.size, 1, none⟩) h1).trans c1; obtain ⟨s5, d5, rfl, -⟩ := (id hz); clear HCV)
  go_upto_region 14 with (go_at_call 11; refine (HWI _ _ _ hz hy).out.mono ?_; rintro e wn ⟨rfl, hb⟩; replace hz := hz.step hb; replace hF := hF.step hb; clear hb; clear y0 y1; have y0 := (hF.below.cell (p := ⟨w.heap.size, 0, none⟩) h1).trans c0; have y1 := (hF.below.cell (p := ⟨w.heap.size, 1, none⟩) h1).trans c1; clear HWI hy)
  go_wp2_with (go_at_call 12; refine (HHA _ (hF.ls hb2) (hF.li hx2)).out.mono ?_; rintro e wn ⟨rfl, hb⟩; replace hz := hz.step hb; replace hF := hF.step hb; clear hb; clear y0 y1; have y0 := (hF.below.cell (p := ⟨w.heap.size, 0, none⟩) h1).trans c0; have y1 := (hF.below.cell (p := ⟨w.heap.size, 1, none⟩) h1).trans c1; clear HHA)
  go_returns
  exact ⟨rfl, hBW.trans (hF.below.mono hBW.size)⟩

set_option maxRecDepth 100000 in
set_option maxHeartbeats 16000000 in
theorem walk_out (s : List (List Um.Tm)) (v0 : Value) (p : List (Int × Int)) (v1 : Value) (b : List (Int × Int)) (v : Value) (n : Int) (x : List Int) (t : Value) (q : List Int) (r : Value) (w : World) (hf : Lf w.heap.size w v0 s) (hp : Ls w.heap.size w v1 p) (hs : Ls w.heap.size w v b) (hx : Li w.heap.size w t x) (hq : Li w.heap.size w r q) (h : (Um.ofAll s p b).2 = 0) (hc : (Um.covAll s p b n).2 = 0) (h2 : Um.hasF b x = 0) (h3 : hasA b x = false) :
    Calls Try.prog 3 #[.agg #[v0, v1], v, .int .i64 n, t, r] w fun e w' => e = .returned (.bool true) ∧ Below w.heap.size w w' := by
  have v0 := errV_none
  have q1 := errG
  have q2 := errGn
  have q3 := errE
  have q4 := errN
  obtain ⟨a0, cap0, rfl, -⟩ := (id hf)
  obtain ⟨a1, cap1, rfl, -⟩ := (id hp)
  obtain ⟨a2, cap2, rfl, -⟩ := (id hs)
  obtain ⟨a3, cap3, rfl, -⟩ := (id hx)
  obtain ⟨a4, cap4, rfl, -⟩ := (id hq)
  have h1 : w.heap.size < (w.alloc (.cells #[.slice a0 s.length cap0, .slice a1 p.length cap1] 25)).heap.size := by simp
  have hBW : Below w.heap.size w (w.alloc (.cells #[.slice a0 s.length cap0, .slice a1 p.length cap1] 25)) := by go_grown
  obtain ⟨c0, c1⟩ := box_cells w (.slice a0 s.length cap0) (.slice a1 p.length cap1) 25
  have hF := Fr.start (w.alloc (.cells #[.slice a0 s.length cap0, .slice a1 p.length cap1] 25))
  have hf2 := hf.step hBW
  have hp2 := hp.step hBW
  have hb2 := hs.step hBW
  have hx2 := (hx.keep hBW).wide hBW.size
  have hq2 := (hq.keep hBW).wide hBW.size
  have H0 := fun v0 v1 v w h1 h2 h3 => hid (cvStep_any [[(1000, 1, 0, 0), (-1000, 2, 0, 0)]] v0 [(0, 0)] v1 [(0, 1000)] v 1 w h1 h2 h3)
  rw [fact] at H0
  have HOF := fun w h1 h2 h3 => hid (sof_any s (.slice a0 s.length cap0) p (.slice a1 p.length cap1) b (.slice a2 b.length cap2) w h1 h2 h3)
  have HHA := fun w h1 h2 => hid (bhas_any b (.slice a2 b.length cap2) x (.slice a3 x.length cap3) w h1 h2)
  have HPT := fun w h1 h2 h3 h4 => hid (spoint_any s (.slice a0 s.length cap0) p (.slice a1 p.length cap1) x (.slice a3 x.length cap3) q (.slice a4 q.length cap4) w h1 h2 h3 h4)
  have HCV := fun w h1 h2 h3 => hid (cvStep_any s (.slice a0 s.length cap0) p (.slice a1 p.length cap1) b (.slice a2 b.length cap2) n w h1 h2 h3)
  have HWI := fun u v w h1 h2 => hid (bwithin_any (Um.covAll s p b n).1 u (Um.ofAll s p b).1 v w h1 h2)
  have HH2 := fun u v w h1 h2 => hid (bhas_any (Um.covAll s p b n).1 u (Um.movAll s p x q).1 v w h1 h2)
  clear hf hp hs hx hq
  have y0 := c0
  have y1 := c1
  have k : ((Um.ofAll s p b).2 != 0) = false := by simpa using h
  have k2 : ((Um.covAll s p b n).2 != 0) = false := by simpa using hc
  obtain ⟨m, -, -, -, w1, w2, -⟩ := cov_in h hc
  rw [w1, w2] at HWI
  rw [h2, h3] at HHA
  clear h h2 h3 hc w1 w2 HH2 HPT
  generalize Um.covAll s p b n = C at *
  generalize Um.ofAll s p b = O at *
  go_enter Try.func3, Try.ntmps3
  go_upto_region 5 with (go_at_call 9; refine (H0 _ _ _ _ ((((lit_lf (by simp) (by decide) (lit_lt2 (1000, 1, 0, 0) (-1000, 2, 0, 0) (by simp) (by decide))).alloc _).alloc _).alloc _) ((((lit_ls 0 0 (by simp) (by decide)).alloc _).alloc _)) (lit_ls 0 1000 (by simp) (by decide))).out.mono ?_; rintro e wn ⟨r0, rfl, h9, hb⟩; replace hF := (((((hF.alloc _).alloc _).alloc _).alloc _).alloc _).step hb; clear hb H0 y0 y1; have y0 := (hF.below.cell (p := ⟨w.heap.size, 0, none⟩) h1).trans c0; have y1 := (hF.below.cell (p := ⟨w.heap.size, 1, none⟩) h1).trans c1; obtain ⟨b9, o9, c9, rfl, -, A9⟩ := h9.open (by simp); have z1 := A9.lo 0 rfl (o := o9) rfl; have z2 := A9.hi 0 rfl (o := o9 + 1) rfl; clear A9 h9)
  clear z1 z2
  go_upto_region 8 with (go_at_call 10; refine (HOF _ (hF.lf hf2) (hF.ls hp2) (hF.ls hb2)).out.mono ?_; rintro e wn ⟨r1, rfl, hy, hb⟩; replace hF := hF.step hb; clear hb; clear y0 y1; have y0 := (hF.below.cell (p := ⟨w.heap.size, 0, none⟩) h1).trans c0; have y1 := (hF.below.cell (p := ⟨w.heap.size, 1, none⟩) h1).trans c1; obtain ⟨s1, d1, rfl, -⟩ := (id hy); clear HOF)
  go_upto_region 11 with (go_at_call 9; refine (HCV _ (hF.lf hf2) (hF.ls hp2) (hF.ls hb2)).out.mono ?_; rintro e wn ⟨r5, rfl, hz, hb⟩; replace hy := hy.step hb; replace hF := hF.step hb; clear hb; clear y0 y1; have y0 := (hF.below.cell (p := ⟨w.heap.size, 0, none⟩) h1).trans c0; have y1 := (hF.below.cell (p := ⟨w.heap.size, 1, none⟩) h1).trans c1; obtain ⟨s5, d5, rfl, -⟩ := (id hz); clear HCV)
  go_upto_region 14 with (go_at_call 11; refine (HWI _ _ _ hz hy).out.mono ?_; rintro e wn ⟨rfl, hb⟩; replace hz := hz.step hb; replace hF := hF.step hb; clear hb; clear y0 y1; have y0 := (hF.below.cell (p := ⟨w.heap.size, 0, none⟩) h1).trans c0; have y1 := (hF.below.cell (p := ⟨w.heap.size, 1, none⟩) h1).trans c1; clear HWI hy)
  go_wp2_with (go_at_call 12; refine (HHA _ (hF.ls hb2) (hF.li hx2)).out.mono ?_; rintro e wn ⟨rfl, hb⟩; replace hz := hz.step hb; replace hF := hF.step hb; clear hb; clear y0 y1; have y0 := (hF.below.cell (p := ⟨w.heap.size, 0, none⟩) h1).trans c0; have y1 := (hF.below.cell (p := ⟨w.heap.size, 1, none⟩) h1).trans c1; clear HHA)
  go_returns
  exact ⟨rfl, hBW.trans (hF.below.mono hBW.size)⟩

set_option maxRecDepth 100000 in
set_option maxHeartbeats 16000000 in
theorem walk_point (s : List (List Um.Tm)) (v0 : Value) (p : List (Int × Int)) (v1 : Value) (b : List (Int × Int)) (v : Value) (n : Int) (x : List Int) (t : Value) (q : List Int) (r : Value) (w : World) (hf : Lf w.heap.size w v0 s) (hp : Ls w.heap.size w v1 p) (hs : Ls w.heap.size w v b) (hx : Li w.heap.size w t x) (hq : Li w.heap.size w r q) (h : (Um.ofAll s p b).2 = 0) (hc : (Um.covAll s p b n).2 = 0) (h2 : Um.hasF b x = 0) (h3 : hasA b x = true) (h4 : ¬ (Um.movAll s p x q).2 = 0) :
    Calls Try.prog 3 #[.agg #[v0, v1], v, .int .i64 n, t, r] w fun e w' => e = .returned (.bool true) ∧ Below w.heap.size w w' := by
  have v0 := errV_none
  have q1 := errG
  have q2 := errGn
  have q3 := errE
  have q4 := errN
  obtain ⟨a0, cap0, rfl, -⟩ := (id hf)
  obtain ⟨a1, cap1, rfl, -⟩ := (id hp)
  obtain ⟨a2, cap2, rfl, -⟩ := (id hs)
  obtain ⟨a3, cap3, rfl, -⟩ := (id hx)
  obtain ⟨a4, cap4, rfl, -⟩ := (id hq)
  have h1 : w.heap.size < (w.alloc (.cells #[.slice a0 s.length cap0, .slice a1 p.length cap1] 25)).heap.size := by simp
  have hBW : Below w.heap.size w (w.alloc (.cells #[.slice a0 s.length cap0, .slice a1 p.length cap1] 25)) := by go_grown
  obtain ⟨c0, c1⟩ := box_cells w (.slice a0 s.length cap0) (.slice a1 p.length cap1) 25
  have hF := Fr.start (w.alloc (.cells #[.slice a0 s.length cap0, .slice a1 p.length cap1] 25))
  have hf2 := hf.step hBW
  have hp2 := hp.step hBW
  have hb2 := hs.step hBW
  have hx2 := (hx.keep hBW).wide hBW.size
  have hq2 := (hq.keep hBW).wide hBW.size
  have H0 := fun v0 v1 v w h1 h2 h3 => hid (cvStep_any [[(1000, 1, 0, 0), (-1000, 2, 0, 0)]] v0 [(0, 0)] v1 [(0, 1000)] v 1 w h1 h2 h3)
  rw [fact] at H0
  have HOF := fun w h1 h2 h3 => hid (sof_any s (.slice a0 s.length cap0) p (.slice a1 p.length cap1) b (.slice a2 b.length cap2) w h1 h2 h3)
  have HHA := fun w h1 h2 => hid (bhas_any b (.slice a2 b.length cap2) x (.slice a3 x.length cap3) w h1 h2)
  have HPT := fun w h1 h2 h3 h4 => hid (spoint_any s (.slice a0 s.length cap0) p (.slice a1 p.length cap1) x (.slice a3 x.length cap3) q (.slice a4 q.length cap4) w h1 h2 h3 h4)
  have HCV := fun w h1 h2 h3 => hid (cvStep_any s (.slice a0 s.length cap0) p (.slice a1 p.length cap1) b (.slice a2 b.length cap2) n w h1 h2 h3)
  have HWI := fun u v w h1 h2 => hid (bwithin_any (Um.covAll s p b n).1 u (Um.ofAll s p b).1 v w h1 h2)
  have HH2 := fun u v w h1 h2 => hid (bhas_any (Um.covAll s p b n).1 u (Um.movAll s p x q).1 v w h1 h2)
  clear hf hp hs hx hq
  have y0 := c0
  have y1 := c1
  have k : ((Um.ofAll s p b).2 != 0) = false := by simpa using h
  have k2 : ((Um.covAll s p b n).2 != 0) = false := by simpa using hc
  obtain ⟨m, -, -, -, w1, w2, -⟩ := cov_in h hc
  rw [w1, w2] at HWI
  have k4 : ((Um.movAll s p x q).2 != 0) = true := by simpa using h4
  rw [h2, h3] at HHA
  clear h h2 h3 h4 hc w1 w2 HH2
  generalize Um.covAll s p b n = C at *
  generalize Um.ofAll s p b = O at *
  generalize Um.movAll s p x q = M at *
  go_enter Try.func3, Try.ntmps3
  go_upto_region 5 with (go_at_call 9; refine (H0 _ _ _ _ ((((lit_lf (by simp) (by decide) (lit_lt2 (1000, 1, 0, 0) (-1000, 2, 0, 0) (by simp) (by decide))).alloc _).alloc _).alloc _) ((((lit_ls 0 0 (by simp) (by decide)).alloc _).alloc _)) (lit_ls 0 1000 (by simp) (by decide))).out.mono ?_; rintro e wn ⟨r0, rfl, h9, hb⟩; replace hF := (((((hF.alloc _).alloc _).alloc _).alloc _).alloc _).step hb; clear hb H0 y0 y1; have y0 := (hF.below.cell (p := ⟨w.heap.size, 0, none⟩) h1).trans c0; have y1 := (hF.below.cell (p := ⟨w.heap.size, 1, none⟩) h1).trans c1; obtain ⟨b9, o9, c9, rfl, -, A9⟩ := h9.open (by simp); have z1 := A9.lo 0 rfl (o := o9) rfl; have z2 := A9.hi 0 rfl (o := o9 + 1) rfl; clear A9 h9)
  clear z1 z2
  go_upto_region 8 with (go_at_call 10; refine (HOF _ (hF.lf hf2) (hF.ls hp2) (hF.ls hb2)).out.mono ?_; rintro e wn ⟨r1, rfl, hy, hb⟩; replace hF := hF.step hb; clear hb; clear y0 y1; have y0 := (hF.below.cell (p := ⟨w.heap.size, 0, none⟩) h1).trans c0; have y1 := (hF.below.cell (p := ⟨w.heap.size, 1, none⟩) h1).trans c1; obtain ⟨s1, d1, rfl, -⟩ := (id hy); clear HOF)
  go_upto_region 11 with (go_at_call 9; refine (HCV _ (hF.lf hf2) (hF.ls hp2) (hF.ls hb2)).out.mono ?_; rintro e wn ⟨r5, rfl, hz, hb⟩; replace hy := hy.step hb; replace hF := hF.step hb; clear hb; clear y0 y1; have y0 := (hF.below.cell (p := ⟨w.heap.size, 0, none⟩) h1).trans c0; have y1 := (hF.below.cell (p := ⟨w.heap.size, 1, none⟩) h1).trans c1; obtain ⟨s5, d5, rfl, -⟩ := (id hz); clear HCV)
  go_upto_region 14 with (go_at_call 11; refine (HWI _ _ _ hz hy).out.mono ?_; rintro e wn ⟨rfl, hb⟩; replace hz := hz.step hb; replace hF := hF.step hb; clear hb; clear y0 y1; have y0 := (hF.below.cell (p := ⟨w.heap.size, 0, none⟩) h1).trans c0; have y1 := (hF.below.cell (p := ⟨w.heap.size, 1, none⟩) h1).trans c1; clear HWI hy)
  go_upto_region 17 with (go_at_call 12; refine (HHA _ (hF.ls hb2) (hF.li hx2)).out.mono ?_; rintro e wn ⟨rfl, hb⟩; replace hz := hz.step hb; replace hF := hF.step hb; clear hb; clear y0 y1; have y0 := (hF.below.cell (p := ⟨w.heap.size, 0, none⟩) h1).trans c0; have y1 := (hF.below.cell (p := ⟨w.heap.size, 1, none⟩) h1).trans c1; clear HHA)
  go_wp2_with (go_at_call 13; refine (HPT _ (hF.lf hf2) (hF.ls hp2) (hF.li hx2) (hF.li hq2)).out.mono ?_; rintro e wn ⟨r2, rfl, hm, hb⟩; replace hz := hz.step hb; replace hF := hF.step hb; clear hb; clear y0 y1; have y0 := (hF.below.cell (p := ⟨w.heap.size, 0, none⟩) h1).trans c0; have y1 := (hF.below.cell (p := ⟨w.heap.size, 1, none⟩) h1).trans c1; obtain ⟨s2, d2, rfl, -⟩ := (id hm); clear HPT)
  go_returns
  exact ⟨rfl, hBW.trans (hF.below.mono hBW.size)⟩

set_option maxRecDepth 100000 in
set_option maxHeartbeats 16000000 in
theorem walk_in (s : List (List Um.Tm)) (v0 : Value) (p : List (Int × Int)) (v1 : Value) (b : List (Int × Int)) (v : Value) (n : Int) (x : List Int) (t : Value) (q : List Int) (r : Value) (w : World) (hf : Lf w.heap.size w v0 s) (hp : Ls w.heap.size w v1 p) (hs : Ls w.heap.size w v b) (hx : Li w.heap.size w t x) (hq : Li w.heap.size w r q) (h : (Um.ofAll s p b).2 = 0) (hc : (Um.covAll s p b n).2 = 0) (h2 : Um.hasF b x = 0) (h3 : hasA b x = true) (h4 : (Um.movAll s p x q).2 = 0) :
    Calls Try.prog 3 #[.agg #[v0, v1], v, .int .i64 n, t, r] w fun e w' => e = .returned (.bool true) ∧ Below w.heap.size w w' := by
  have v0 := errV_none
  have q1 := errG
  have q2 := errGn
  have q3 := errE
  have q4 := errN
  obtain ⟨a0, cap0, rfl, -⟩ := (id hf)
  obtain ⟨a1, cap1, rfl, -⟩ := (id hp)
  obtain ⟨a2, cap2, rfl, -⟩ := (id hs)
  obtain ⟨a3, cap3, rfl, -⟩ := (id hx)
  obtain ⟨a4, cap4, rfl, -⟩ := (id hq)
  have h1 : w.heap.size < (w.alloc (.cells #[.slice a0 s.length cap0, .slice a1 p.length cap1] 25)).heap.size := by simp
  have hBW : Below w.heap.size w (w.alloc (.cells #[.slice a0 s.length cap0, .slice a1 p.length cap1] 25)) := by go_grown
  obtain ⟨c0, c1⟩ := box_cells w (.slice a0 s.length cap0) (.slice a1 p.length cap1) 25
  have hF := Fr.start (w.alloc (.cells #[.slice a0 s.length cap0, .slice a1 p.length cap1] 25))
  have hf2 := hf.step hBW
  have hp2 := hp.step hBW
  have hb2 := hs.step hBW
  have hx2 := (hx.keep hBW).wide hBW.size
  have hq2 := (hq.keep hBW).wide hBW.size
  have H0 := fun v0 v1 v w h1 h2 h3 => hid (cvStep_any [[(1000, 1, 0, 0), (-1000, 2, 0, 0)]] v0 [(0, 0)] v1 [(0, 1000)] v 1 w h1 h2 h3)
  rw [fact] at H0
  have HOF := fun w h1 h2 h3 => hid (sof_any s (.slice a0 s.length cap0) p (.slice a1 p.length cap1) b (.slice a2 b.length cap2) w h1 h2 h3)
  have HHA := fun w h1 h2 => hid (bhas_any b (.slice a2 b.length cap2) x (.slice a3 x.length cap3) w h1 h2)
  have HPT := fun w h1 h2 h3 h4 => hid (spoint_any s (.slice a0 s.length cap0) p (.slice a1 p.length cap1) x (.slice a3 x.length cap3) q (.slice a4 q.length cap4) w h1 h2 h3 h4)
  have HCV := fun w h1 h2 h3 => hid (cvStep_any s (.slice a0 s.length cap0) p (.slice a1 p.length cap1) b (.slice a2 b.length cap2) n w h1 h2 h3)
  have HWI := fun u v w h1 h2 => hid (bwithin_any (Um.covAll s p b n).1 u (Um.ofAll s p b).1 v w h1 h2)
  have HH2 := fun u v w h1 h2 => hid (bhas_any (Um.covAll s p b n).1 u (Um.movAll s p x q).1 v w h1 h2)
  clear hf hp hs hx hq
  have y0 := c0
  have y1 := c1
  have k : ((Um.ofAll s p b).2 != 0) = false := by simpa using h
  have k2 : ((Um.covAll s p b n).2 != 0) = false := by simpa using hc
  obtain ⟨m, -, -, -, w1, w2, -⟩ := cov_in h hc
  rw [w1, w2] at HWI
  have k4 : ((Um.movAll s p x q).2 != 0) = false := by simpa using h4
  rw [h2, h3] at HHA
  obtain ⟨g1, g2⟩ := stays h hc h3 h4
  rw [g1, g2] at HH2
  clear h h2 h3 h4 g1 g2 hc w1 w2
  generalize Um.covAll s p b n = C at *
  generalize Um.ofAll s p b = O at *
  generalize Um.movAll s p x q = M at *
  go_enter Try.func3, Try.ntmps3
  go_upto_region 5 with (go_at_call 9; refine (H0 _ _ _ _ ((((lit_lf (by simp) (by decide) (lit_lt2 (1000, 1, 0, 0) (-1000, 2, 0, 0) (by simp) (by decide))).alloc _).alloc _).alloc _) ((((lit_ls 0 0 (by simp) (by decide)).alloc _).alloc _)) (lit_ls 0 1000 (by simp) (by decide))).out.mono ?_; rintro e wn ⟨r0, rfl, h9, hb⟩; replace hF := (((((hF.alloc _).alloc _).alloc _).alloc _).alloc _).step hb; clear hb H0 y0 y1; have y0 := (hF.below.cell (p := ⟨w.heap.size, 0, none⟩) h1).trans c0; have y1 := (hF.below.cell (p := ⟨w.heap.size, 1, none⟩) h1).trans c1; obtain ⟨b9, o9, c9, rfl, -, A9⟩ := h9.open (by simp); have z1 := A9.lo 0 rfl (o := o9) rfl; have z2 := A9.hi 0 rfl (o := o9 + 1) rfl; clear A9 h9)
  clear z1 z2
  go_upto_region 8 with (go_at_call 10; refine (HOF _ (hF.lf hf2) (hF.ls hp2) (hF.ls hb2)).out.mono ?_; rintro e wn ⟨r1, rfl, hy, hb⟩; replace hF := hF.step hb; clear hb; clear y0 y1; have y0 := (hF.below.cell (p := ⟨w.heap.size, 0, none⟩) h1).trans c0; have y1 := (hF.below.cell (p := ⟨w.heap.size, 1, none⟩) h1).trans c1; obtain ⟨s1, d1, rfl, -⟩ := (id hy); clear HOF)
  go_upto_region 11 with (go_at_call 9; refine (HCV _ (hF.lf hf2) (hF.ls hp2) (hF.ls hb2)).out.mono ?_; rintro e wn ⟨r5, rfl, hz, hb⟩; replace hy := hy.step hb; replace hF := hF.step hb; clear hb; clear y0 y1; have y0 := (hF.below.cell (p := ⟨w.heap.size, 0, none⟩) h1).trans c0; have y1 := (hF.below.cell (p := ⟨w.heap.size, 1, none⟩) h1).trans c1; obtain ⟨s5, d5, rfl, -⟩ := (id hz); clear HCV)
  go_upto_region 14 with (go_at_call 11; refine (HWI _ _ _ hz hy).out.mono ?_; rintro e wn ⟨rfl, hb⟩; replace hz := hz.step hb; replace hF := hF.step hb; clear hb; clear y0 y1; have y0 := (hF.below.cell (p := ⟨w.heap.size, 0, none⟩) h1).trans c0; have y1 := (hF.below.cell (p := ⟨w.heap.size, 1, none⟩) h1).trans c1; clear HWI hy)
  go_upto_region 17 with (go_at_call 12; refine (HHA _ (hF.ls hb2) (hF.li hx2)).out.mono ?_; rintro e wn ⟨rfl, hb⟩; replace hz := hz.step hb; replace hF := hF.step hb; clear hb; clear y0 y1; have y0 := (hF.below.cell (p := ⟨w.heap.size, 0, none⟩) h1).trans c0; have y1 := (hF.below.cell (p := ⟨w.heap.size, 1, none⟩) h1).trans c1; clear HHA)
  go_upto_region 20 with (go_at_call 13; refine (HPT _ (hF.lf hf2) (hF.ls hp2) (hF.li hx2) (hF.li hq2)).out.mono ?_; rintro e wn ⟨r2, rfl, hm, hb⟩; replace hz := hz.step hb; replace hF := hF.step hb; clear hb; clear y0 y1; have y0 := (hF.below.cell (p := ⟨w.heap.size, 0, none⟩) h1).trans c0; have y1 := (hF.below.cell (p := ⟨w.heap.size, 1, none⟩) h1).trans c1; obtain ⟨s2, d2, rfl, -⟩ := (id hm); clear HPT)
  go_wp2_with (go_at_call 12; refine (HH2 _ _ _ hz hm).out.mono ?_; rintro e wn ⟨rfl, hb⟩; replace hF := hF.step hb; clear hb; clear y0 y1; have y0 := (hF.below.cell (p := ⟨w.heap.size, 0, none⟩) h1).trans c0; have y1 := (hF.below.cell (p := ⟨w.heap.size, 1, none⟩) h1).trans c1; clear HH2)
  go_returns
  exact ⟨rfl, hBW.trans (hF.below.mono hBW.size)⟩

theorem walk (s : List (List Um.Tm)) (v0 : Value) (p : List (Int × Int)) (v1 : Value) (b : List (Int × Int)) (v : Value) (n : Int) (x : List Int) (t : Value) (q : List Int) (r : Value) (w : World) (hf : Lf w.heap.size w v0 s) (hp : Ls w.heap.size w v1 p) (hs : Ls w.heap.size w v b) (hx : Li w.heap.size w t x) (hq : Li w.heap.size w r q) :
    Calls Try.prog 3 #[.agg #[v0, v1], v, .int .i64 n, t, r] w fun e w' => e = .returned (.bool true) ∧ Below w.heap.size w w' := by
  by_cases h : (Um.ofAll s p b).2 = 0
  case neg => exact walk_of s v0 p v1 b v n x t q r w hf hp hs hx hq h
  by_cases hc : (Um.covAll s p b n).2 = 0
  case neg =>
    rcases cov_bad h hc with hn | hn
    · exact walk_low s v0 p v1 b v n x t q r w hf hp hs hx hq h hc hn
    · exact walk_high s v0 p v1 b v n x t q r w hf hp hs hx hq h hc hn
  by_cases h2 : Um.hasF b x = 0
  case neg => exact walk_has s v0 p v1 b v n x t q r w hf hp hs hx hq h hc h2
  cases h3 : hasA b x
  · exact walk_out s v0 p v1 b v n x t q r w hf hp hs hx hq h hc h2 h3
  · by_cases h4 : (Um.movAll s p x q).2 = 0
    · exact walk_in s v0 p v1 b v n x t q r w hf hp hs hx hq h hc h2 h3 h4
    · exact walk_point s v0 p v1 b v n x t q r w hf hp hs hx hq h hc h2 h3 h4
end Go.Proofs.Ytkeoafbkbblnaaa.CvHas
