/-
  The walk over 'spanlaw2.NearPulls': for all s, b, x, y, push it returns true.
-/
import Derived.Test.YtmkdjaafkigemaaNear
import Derived.Test.YtmkdjaafkigemaaStep
import Derived.Test.YtmkdjaafkigemaaBoxH
import Derived.Test.YtmkdjaafkigemaaSysLit
import Derived.Test.YtmkdjaafkigemaaMems
import Derived.Test.YtmkdjaafkigemaaMaths4
import Derived.Deep.CutRange
namespace Go.Proofs.Ytmkdjaafkigemaa.NrPulls
set_option linter.unusedSimpArgs false
open Go.RowKit

abbrev sHalf : List (List Um.Tm) := [[(500, 1, 0, 0)]]
theorem half_bnd : Um.bndAll sHalf [(0, 0)] [(-100, 100)] = (500, 0) := by decide +kernel
theorem half_pull : Um.pullAll sHalf [(0, 0)] [(-100, 100)] = (true, 0) := by decide +kernel
theorem rFar0_wide (n : Int) (w : World) (h1 : -4000000000000000000 ≤ n) (h2 : n ≤ 4000000000000000000) :
    Calls Try.prog 10 #[.int .i64 n] w fun e w' => e = .returned (.int .i64 (Um.ab n)) ∧ w' = w := by
  unfold Um.ab
  by_cases h : n < 0
  · rw [if_pos h]
    have k : decide (n < 0) = true := decide_eq_true h
    go_enter Try.func10, Try.ntmps10
    go_wp2
    go_returns
    exact ⟨rfl, rfl⟩
  · rw [if_neg h]
    have k : decide (n < 0) = false := decide_eq_false h
    go_enter Try.func10, Try.ntmps10
    go_wp2
    go_returns
    exact ⟨rfl, rfl⟩
theorem has_parts {b : List (Int × Int)} {x : List Int} (h : Um.hasF b x = 0) (g : hasA b x = true) : Um.hasP b x ∧ x.length = b.length ∧ Um.boxF b = 0 := by
  unfold hasA at g
  exact Um.has_whole h (Bool.and_eq_true_iff.1 g).2
theorem rFar0_b (n : Int) (w : World) (h1 : -4000000000000000000 ≤ n) (h2 : n ≤ 4000000000000000000) :
    Calls Try.prog 10 #[.int .i64 n] w fun e w' => e = .returned (.int .i64 (Um.ab n)) ∧ Below w.heap.size w w' := by
  refine (rFar0_wide n w h1 h2).mono ?_
  rintro e w' ⟨rfl, rfl⟩
  exact ⟨rfl, Below.refl _ _⟩

set_option maxRecDepth 100000 in
set_option maxHeartbeats 32000000 in
theorem walk_bound (s : List (List Um.Tm)) (v0 : Value) (p : List (Int × Int)) (v1 : Value) (b : List (Int × Int)) (v : Value) (x : List Int) (u : Value) (y : List Int) (t : Value) (q : List Int) (r : Value) (w : World) (hf : Lf w.heap.size w v0 s) (hp : Ls w.heap.size w v1 p) (hs : Ls w.heap.size w v b) (hx : Li w.heap.size w u x) (hy : Li w.heap.size w t y) (hq : Li w.heap.size w r q) (hn : ¬ (Um.bndAll s p b).2 = 0) :
    Calls Try.prog 3 #[.agg #[v0, v1], v, u, t, r] w fun e w' => e = .returned (.bool true) ∧ Below w.heap.size w w' := by
  have v0 := errV_none
  have q1 := errG
  have q2 := errGn
  have q3 := errE
  have q4 := errN
  obtain ⟨a0, cap0, rfl, -⟩ := (id hf)
  obtain ⟨a1, cap1, rfl, -⟩ := (id hp)
  obtain ⟨a2, cap2, rfl, -⟩ := (id hs)
  obtain ⟨a3, cap3, rfl, -⟩ := (id hx)
  obtain ⟨a4, cap4, rfl, -⟩ := (id hy)
  obtain ⟨a5, cap5, rfl, -⟩ := (id hq)
  have h1 : w.heap.size < (w.alloc (.cells #[.slice a0 s.length cap0, .slice a1 p.length cap1] 25)).heap.size := by simp
  have hBW : Below w.heap.size w (w.alloc (.cells #[.slice a0 s.length cap0, .slice a1 p.length cap1] 25)) := by go_grown
  obtain ⟨c0, c1⟩ := sys_cells w (.slice a0 s.length cap0) (.slice a1 p.length cap1) 25
  have hF := Fr.start (w.alloc (.cells #[.slice a0 s.length cap0, .slice a1 p.length cap1] 25))
  have hf2 := hf.step hBW
  have hp2 := hp.step hBW
  have hb2 := hs.step hBW
  have hx2 := (hx.keep hBW).wide hBW.size
  have hy2 := (hy.keep hBW).wide hBW.size
  have hq2 := (hq.keep hBW).wide hBW.size
  have HB1 := fun v0 v1 v w h1 h2 h3 => hid (nrBound_any sHalf v0 [(0, 0)] v1 [(-100, 100)] v w h1 h2 h3)
  have HP1 := fun v0 v1 v w h1 h2 h3 => hid (nrPull_any sHalf v0 [(0, 0)] v1 [(-100, 100)] v w h1 h2 h3)
  rw [half_bnd] at HB1
  rw [half_pull] at HP1
  have HB2 := fun w h1 h2 h3 => hid (nrBound_any s (.slice a0 s.length cap0) p (.slice a1 p.length cap1) b (.slice a2 b.length cap2) w h1 h2 h3)
  clear hf hp hs hx hy hq
  have y0 := c0
  have y1 := c1
  have kn : ((Um.bndAll s p b).2 != 0) = true := by simpa using hn
  clear hn hx2 hy2 hq2
  generalize Um.bndAll s p b = BN at *
  go_enter Try.func3, Try.ntmps3
  go_upto_region 2 with fail
  have hLf : Lf (((((w.alloc (.cells #[.slice a0 s.length cap0, .slice a1 p.length cap1] 25)).alloc (.cells #[.int .i64 500, .int .i64 1, .int .i64 0, .int .i64 0] 29)).alloc (.cells #[.slice (some ⟨w.heap.size + 1, 0, none⟩) 1 1] 30)).alloc (.cells #[.int .i64 0, .int .i64 0] 32)).alloc (.cells #[.slice (some ⟨w.heap.size + 1 + 1, 0, none⟩) 1 1, .slice (some ⟨w.heap.size + 1 + 1 + 1, 0, none⟩) 1 1] 25)).heap.size (((((w.alloc (.cells #[.slice a0 s.length cap0, .slice a1 p.length cap1] 25)).alloc (.cells #[.int .i64 500, .int .i64 1, .int .i64 0, .int .i64 0] 29)).alloc (.cells #[.slice (some ⟨w.heap.size + 1, 0, none⟩) 1 1] 30)).alloc (.cells #[.int .i64 0, .int .i64 0] 32)).alloc (.cells #[.slice (some ⟨w.heap.size + 1 + 1, 0, none⟩) 1 1, .slice (some ⟨w.heap.size + 1 + 1 + 1, 0, none⟩) 1 1] 25)) (.slice (some ⟨w.heap.size + 1 + 1, 0, none⟩) 1 1) sHalf := ((lit_lf (by simp) (by decide) (lit_lt (500, 1, 0, 0) (by simp) (by decide))).alloc _).alloc _
  have hLs : Ls (((((w.alloc (.cells #[.slice a0 s.length cap0, .slice a1 p.length cap1] 25)).alloc (.cells #[.int .i64 500, .int .i64 1, .int .i64 0, .int .i64 0] 29)).alloc (.cells #[.slice (some ⟨w.heap.size + 1, 0, none⟩) 1 1] 30)).alloc (.cells #[.int .i64 0, .int .i64 0] 32)).alloc (.cells #[.slice (some ⟨w.heap.size + 1 + 1, 0, none⟩) 1 1, .slice (some ⟨w.heap.size + 1 + 1 + 1, 0, none⟩) 1 1] 25)).heap.size (((((w.alloc (.cells #[.slice a0 s.length cap0, .slice a1 p.length cap1] 25)).alloc (.cells #[.int .i64 500, .int .i64 1, .int .i64 0, .int .i64 0] 29)).alloc (.cells #[.slice (some ⟨w.heap.size + 1, 0, none⟩) 1 1] 30)).alloc (.cells #[.int .i64 0, .int .i64 0] 32)).alloc (.cells #[.slice (some ⟨w.heap.size + 1 + 1, 0, none⟩) 1 1, .slice (some ⟨w.heap.size + 1 + 1 + 1, 0, none⟩) 1 1] 25)) (.slice (some ⟨w.heap.size + 1 + 1 + 1, 0, none⟩) 1 1) [(0, 0)] := (lit_ls 0 0 (by simp) (by decide)).alloc _
  have hSy := SyAt.new ((((w.alloc (.cells #[.slice a0 s.length cap0, .slice a1 p.length cap1] 25)).alloc (.cells #[.int .i64 500, .int .i64 1, .int .i64 0, .int .i64 0] 29)).alloc (.cells #[.slice (some ⟨w.heap.size + 1, 0, none⟩) 1 1] 30)).alloc (.cells #[.int .i64 0, .int .i64 0] 32)) (.slice (some ⟨w.heap.size + 1 + 1, 0, none⟩) 1 1) (.slice (some ⟨w.heap.size + 1 + 1 + 1, 0, none⟩) 1 1) 25 (B := w.heap.size + 1 + 1 + 1 + 1) (by simp)
  replace hF := (((hF.alloc (.cells #[.int .i64 500, .int .i64 1, .int .i64 0, .int .i64 0] 29)).alloc (.cells #[.slice (some ⟨w.heap.size + 1, 0, none⟩) 1 1] 30)).alloc (.cells #[.int .i64 0, .int .i64 0] 32)).alloc (.cells #[.slice (some ⟨w.heap.size + 1 + 1, 0, none⟩) 1 1, .slice (some ⟨w.heap.size + 1 + 1 + 1, 0, none⟩) 1 1] 25)
  generalize (((((w.alloc (.cells #[.slice a0 s.length cap0, .slice a1 p.length cap1] 25)).alloc (.cells #[.int .i64 500, .int .i64 1, .int .i64 0, .int .i64 0] 29)).alloc (.cells #[.slice (some ⟨w.heap.size + 1, 0, none⟩) 1 1] 30)).alloc (.cells #[.int .i64 0, .int .i64 0] 32)).alloc (.cells #[.slice (some ⟨w.heap.size + 1 + 1, 0, none⟩) 1 1, .slice (some ⟨w.heap.size + 1 + 1 + 1, 0, none⟩) 1 1] 25)) = W1 at *
  generalize w.heap.size + 1 + 1 + 1 + 1 = BY at *
  generalize w.heap.size + 1 + 1 + 1 = B3 at *
  generalize w.heap.size + 1 + 1 = B2 at *
  clear y0 y1
  have g0 := hSy.c0
  have g1 := hSy.c1
  go_upto_region 4 with (first | (go_at_call 6; refine (HB1 _ _ _ _ (hLf.alloc _) (hLs.alloc _) (lit_ls (-100) 100 (by simp) (by decide))).out.mono ?_; rintro e wk ⟨rfl, hb⟩; replace hLf := (hLf.alloc _).step hb; replace hLs := (hLs.alloc _).step hb; replace hSy := (hSy.alloc _).step hb; replace hF := (hF.alloc _).step hb; clear hb HB1 g0 g1; have g0 := hSy.c0; have g1 := hSy.c1) | (go_at_call 7; refine (HP1 _ _ _ _ (hLf.alloc _) (hLs.alloc _) (lit_ls (-100) 100 (by simp) (by decide))).out.mono ?_; rintro e wl ⟨rfl, hb⟩; replace hF := (hF.alloc _).step hb; clear hb HP1 g0 g1 hSy hLf hLs))
  have y0 := (hF.below.cell (p := ⟨w.heap.size, 0, none⟩) h1).trans c0
  have y1 := (hF.below.cell (p := ⟨w.heap.size, 1, none⟩) h1).trans c1
  go_upto_region 7 with (go_at_call 6; refine (HB2 _ (hF.lf hf2) (hF.ls hp2) (hF.ls hb2)).out.mono ?_; rintro e wn ⟨rfl, hb⟩; replace hF := hF.step hb; clear hb; clear y0 y1; have y0 := (hF.below.cell (p := ⟨w.heap.size, 0, none⟩) h1).trans c0; have y1 := (hF.below.cell (p := ⟨w.heap.size, 1, none⟩) h1).trans c1; clear HB2)
  go_wp2
  go_returns
  exact ⟨rfl, hBW.trans (hF.below.mono hBW.size)⟩

set_option maxRecDepth 100000 in
set_option maxHeartbeats 32000000 in
theorem walk_has (s : List (List Um.Tm)) (v0 : Value) (p : List (Int × Int)) (v1 : Value) (b : List (Int × Int)) (v : Value) (x : List Int) (u : Value) (y : List Int) (t : Value) (q : List Int) (r : Value) (w : World) (hf : Lf w.heap.size w v0 s) (hp : Ls w.heap.size w v1 p) (hs : Ls w.heap.size w v b) (hx : Li w.heap.size w u x) (hy : Li w.heap.size w t y) (hq : Li w.heap.size w r q) (hn : (Um.bndAll s p b).2 = 0) (h : ¬ (Um.hasF b x = 0 ∧ Um.hasF b y = 0 ∧ hasA b x = true ∧ hasA b y = true)) :
    Calls Try.prog 3 #[.agg #[v0, v1], v, u, t, r] w fun e w' => e = .returned (.bool true) ∧ Below w.heap.size w w' := by
  have v0 := errV_none
  have q1 := errG
  have q2 := errGn
  have q3 := errE
  have q4 := errN
  obtain ⟨a0, cap0, rfl, -⟩ := (id hf)
  obtain ⟨a1, cap1, rfl, -⟩ := (id hp)
  obtain ⟨a2, cap2, rfl, -⟩ := (id hs)
  obtain ⟨a3, cap3, rfl, -⟩ := (id hx)
  obtain ⟨a4, cap4, rfl, -⟩ := (id hy)
  obtain ⟨a5, cap5, rfl, -⟩ := (id hq)
  have h1 : w.heap.size < (w.alloc (.cells #[.slice a0 s.length cap0, .slice a1 p.length cap1] 25)).heap.size := by simp
  have hBW : Below w.heap.size w (w.alloc (.cells #[.slice a0 s.length cap0, .slice a1 p.length cap1] 25)) := by go_grown
  obtain ⟨c0, c1⟩ := sys_cells w (.slice a0 s.length cap0) (.slice a1 p.length cap1) 25
  have hF := Fr.start (w.alloc (.cells #[.slice a0 s.length cap0, .slice a1 p.length cap1] 25))
  have hf2 := hf.step hBW
  have hp2 := hp.step hBW
  have hb2 := hs.step hBW
  have hx2 := (hx.keep hBW).wide hBW.size
  have hy2 := (hy.keep hBW).wide hBW.size
  have hq2 := (hq.keep hBW).wide hBW.size
  have HB1 := fun v0 v1 v w h1 h2 h3 => hid (nrBound_any sHalf v0 [(0, 0)] v1 [(-100, 100)] v w h1 h2 h3)
  have HP1 := fun v0 v1 v w h1 h2 h3 => hid (nrPull_any sHalf v0 [(0, 0)] v1 [(-100, 100)] v w h1 h2 h3)
  rw [half_bnd] at HB1
  rw [half_pull] at HP1
  have HB2 := fun w h1 h2 h3 => hid (nrBound_any s (.slice a0 s.length cap0) p (.slice a1 p.length cap1) b (.slice a2 b.length cap2) w h1 h2 h3)
  clear hf hp hs hx hy hq
  have y0 := c0
  have y1 := c1
  have kn : ((Um.bndAll s p b).2 != 0) = false := by simpa using hn
  have HHX := fun w h1 h2 => hid (bhas_any b (.slice a2 b.length cap2) x (.slice a3 x.length cap3) w h1 h2)
  have HHY := fun w h1 h2 => hid (bhas_any b (.slice a2 b.length cap2) y (.slice a4 y.length cap4) w h1 h2)
  clear hn
  generalize Um.bndAll s p b = BN at *
  generalize Um.hasF b x = F1 at *
  generalize Um.hasF b y = F2 at *
  generalize hasA b x = A1 at *
  generalize hasA b y = A2 at *
  replace h := hid h
  go_enter Try.func3, Try.ntmps3
  go_upto_region 2 with fail
  have hLf : Lf (((((w.alloc (.cells #[.slice a0 s.length cap0, .slice a1 p.length cap1] 25)).alloc (.cells #[.int .i64 500, .int .i64 1, .int .i64 0, .int .i64 0] 29)).alloc (.cells #[.slice (some ⟨w.heap.size + 1, 0, none⟩) 1 1] 30)).alloc (.cells #[.int .i64 0, .int .i64 0] 32)).alloc (.cells #[.slice (some ⟨w.heap.size + 1 + 1, 0, none⟩) 1 1, .slice (some ⟨w.heap.size + 1 + 1 + 1, 0, none⟩) 1 1] 25)).heap.size (((((w.alloc (.cells #[.slice a0 s.length cap0, .slice a1 p.length cap1] 25)).alloc (.cells #[.int .i64 500, .int .i64 1, .int .i64 0, .int .i64 0] 29)).alloc (.cells #[.slice (some ⟨w.heap.size + 1, 0, none⟩) 1 1] 30)).alloc (.cells #[.int .i64 0, .int .i64 0] 32)).alloc (.cells #[.slice (some ⟨w.heap.size + 1 + 1, 0, none⟩) 1 1, .slice (some ⟨w.heap.size + 1 + 1 + 1, 0, none⟩) 1 1] 25)) (.slice (some ⟨w.heap.size + 1 + 1, 0, none⟩) 1 1) sHalf := ((lit_lf (by simp) (by decide) (lit_lt (500, 1, 0, 0) (by simp) (by decide))).alloc _).alloc _
  have hLs : Ls (((((w.alloc (.cells #[.slice a0 s.length cap0, .slice a1 p.length cap1] 25)).alloc (.cells #[.int .i64 500, .int .i64 1, .int .i64 0, .int .i64 0] 29)).alloc (.cells #[.slice (some ⟨w.heap.size + 1, 0, none⟩) 1 1] 30)).alloc (.cells #[.int .i64 0, .int .i64 0] 32)).alloc (.cells #[.slice (some ⟨w.heap.size + 1 + 1, 0, none⟩) 1 1, .slice (some ⟨w.heap.size + 1 + 1 + 1, 0, none⟩) 1 1] 25)).heap.size (((((w.alloc (.cells #[.slice a0 s.length cap0, .slice a1 p.length cap1] 25)).alloc (.cells #[.int .i64 500, .int .i64 1, .int .i64 0, .int .i64 0] 29)).alloc (.cells #[.slice (some ⟨w.heap.size + 1, 0, none⟩) 1 1] 30)).alloc (.cells #[.int .i64 0, .int .i64 0] 32)).alloc (.cells #[.slice (some ⟨w.heap.size + 1 + 1, 0, none⟩) 1 1, .slice (some ⟨w.heap.size + 1 + 1 + 1, 0, none⟩) 1 1] 25)) (.slice (some ⟨w.heap.size + 1 + 1 + 1, 0, none⟩) 1 1) [(0, 0)] := (lit_ls 0 0 (by simp) (by decide)).alloc _
  have hSy := SyAt.new ((((w.alloc (.cells #[.slice a0 s.length cap0, .slice a1 p.length cap1] 25)).alloc (.cells #[.int .i64 500, .int .i64 1, .int .i64 0, .int .i64 0] 29)).alloc (.cells #[.slice (some ⟨w.heap.size + 1, 0, none⟩) 1 1] 30)).alloc (.cells #[.int .i64 0, .int .i64 0] 32)) (.slice (some ⟨w.heap.size + 1 + 1, 0, none⟩) 1 1) (.slice (some ⟨w.heap.size + 1 + 1 + 1, 0, none⟩) 1 1) 25 (B := w.heap.size + 1 + 1 + 1 + 1) (by simp)
  replace hF := (((hF.alloc (.cells #[.int .i64 500, .int .i64 1, .int .i64 0, .int .i64 0] 29)).alloc (.cells #[.slice (some ⟨w.heap.size + 1, 0, none⟩) 1 1] 30)).alloc (.cells #[.int .i64 0, .int .i64 0] 32)).alloc (.cells #[.slice (some ⟨w.heap.size + 1 + 1, 0, none⟩) 1 1, .slice (some ⟨w.heap.size + 1 + 1 + 1, 0, none⟩) 1 1] 25)
  generalize (((((w.alloc (.cells #[.slice a0 s.length cap0, .slice a1 p.length cap1] 25)).alloc (.cells #[.int .i64 500, .int .i64 1, .int .i64 0, .int .i64 0] 29)).alloc (.cells #[.slice (some ⟨w.heap.size + 1, 0, none⟩) 1 1] 30)).alloc (.cells #[.int .i64 0, .int .i64 0] 32)).alloc (.cells #[.slice (some ⟨w.heap.size + 1 + 1, 0, none⟩) 1 1, .slice (some ⟨w.heap.size + 1 + 1 + 1, 0, none⟩) 1 1] 25)) = W1 at *
  generalize w.heap.size + 1 + 1 + 1 + 1 = BY at *
  generalize w.heap.size + 1 + 1 + 1 = B3 at *
  generalize w.heap.size + 1 + 1 = B2 at *
  clear y0 y1
  have g0 := hSy.c0
  have g1 := hSy.c1
  go_upto_region 4 with (first | (go_at_call 6; refine (HB1 _ _ _ _ (hLf.alloc _) (hLs.alloc _) (lit_ls (-100) 100 (by simp) (by decide))).out.mono ?_; rintro e wk ⟨rfl, hb⟩; replace hLf := (hLf.alloc _).step hb; replace hLs := (hLs.alloc _).step hb; replace hSy := (hSy.alloc _).step hb; replace hF := (hF.alloc _).step hb; clear hb HB1 g0 g1; have g0 := hSy.c0; have g1 := hSy.c1) | (go_at_call 7; refine (HP1 _ _ _ _ (hLf.alloc _) (hLs.alloc _) (lit_ls (-100) 100 (by simp) (by decide))).out.mono ?_; rintro e wl ⟨rfl, hb⟩; replace hF := (hF.alloc _).step hb; clear hb HP1 g0 g1 hSy hLf hLs))
  have y0 := (hF.below.cell (p := ⟨w.heap.size, 0, none⟩) h1).trans c0
  have y1 := (hF.below.cell (p := ⟨w.heap.size, 1, none⟩) h1).trans c1
  go_upto_region 7 with (go_at_call 6; refine (HB2 _ (hF.lf hf2) (hF.ls hp2) (hF.ls hb2)).out.mono ?_; rintro e wn ⟨rfl, hb⟩; replace hF := hF.step hb; clear hb; clear y0 y1; have y0 := (hF.below.cell (p := ⟨w.heap.size, 0, none⟩) h1).trans c0; have y1 := (hF.below.cell (p := ⟨w.heap.size, 1, none⟩) h1).trans c1; clear HB2)
  go_upto_region 11 with (first | (go_at_call 8; refine (HHX _ (hF.ls hb2) (hF.li hx2)).out.mono ?_; rintro e wn ⟨rfl, hb⟩; replace hF := hF.step hb; clear hb; clear y0 y1; have y0 := (hF.below.cell (p := ⟨w.heap.size, 0, none⟩) h1).trans c0; have y1 := (hF.below.cell (p := ⟨w.heap.size, 1, none⟩) h1).trans c1; clear HHX) | (go_at_call 8; refine (HHY _ (hF.ls hb2) (hF.li hy2)).out.mono ?_; rintro e wn ⟨rfl, hb⟩; replace hF := hF.step hb; clear hb; clear y0 y1; have y0 := (hF.below.cell (p := ⟨w.heap.size, 0, none⟩) h1).trans c0; have y1 := (hF.below.cell (p := ⟨w.heap.size, 1, none⟩) h1).trans c1; clear HHY))
  by_cases f1 : F1 = 0
  case neg =>
   have k1 : (F1 != 0) = true := by simpa using f1
   clear h f1
   go_wp2
   go_returns
   exact ⟨rfl, hBW.trans (hF.below.mono hBW.size)⟩
  have k1 : (F1 != 0) = false := by simpa using f1
  by_cases f2 : F2 = 0
  case neg =>
   have k2 : (F2 != 0) = true := by simpa using f2
   clear h f1 f2
   go_wp2
   go_returns
   exact ⟨rfl, hBW.trans (hF.below.mono hBW.size)⟩
  have k2 : (F2 != 0) = false := by simpa using f2
  cases A1
  case false =>
   clear h f1 f2
   go_wp2
   go_returns
   exact ⟨rfl, hBW.trans (hF.below.mono hBW.size)⟩
  cases A2
  case false =>
   clear h f1 f2
   go_wp2
   go_returns
   exact ⟨rfl, hBW.trans (hF.below.mono hBW.size)⟩
  exact absurd ⟨f1, f2, rfl, rfl⟩ h.out

set_option maxRecDepth 100000 in
set_option maxHeartbeats 32000000 in
theorem walk_point (s : List (List Um.Tm)) (v0 : Value) (p : List (Int × Int)) (v1 : Value) (b : List (Int × Int)) (v : Value) (x : List Int) (u : Value) (y : List Int) (t : Value) (q : List Int) (r : Value) (w : World) (hf : Lf w.heap.size w v0 s) (hp : Ls w.heap.size w v1 p) (hs : Ls w.heap.size w v b) (hx : Li w.heap.size w u x) (hy : Li w.heap.size w t y) (hq : Li w.heap.size w r q) (hn : (Um.bndAll s p b).2 = 0) (f1 : Um.hasF b x = 0) (f2 : Um.hasF b y = 0) (g1 : hasA b x = true) (g2 : hasA b y = true) (h : ¬ ((Um.movAll s p x q).2 = 0 ∧ (Um.movAll s p y q).2 = 0)) :
    Calls Try.prog 3 #[.agg #[v0, v1], v, u, t, r] w fun e w' => e = .returned (.bool true) ∧ Below w.heap.size w w' := by
  have v0 := errV_none
  have q1 := errG
  have q2 := errGn
  have q3 := errE
  have q4 := errN
  obtain ⟨a0, cap0, rfl, -⟩ := (id hf)
  obtain ⟨a1, cap1, rfl, -⟩ := (id hp)
  obtain ⟨a2, cap2, rfl, -⟩ := (id hs)
  obtain ⟨a3, cap3, rfl, -⟩ := (id hx)
  obtain ⟨a4, cap4, rfl, -⟩ := (id hy)
  obtain ⟨a5, cap5, rfl, -⟩ := (id hq)
  have h1 : w.heap.size < (w.alloc (.cells #[.slice a0 s.length cap0, .slice a1 p.length cap1] 25)).heap.size := by simp
  have hBW : Below w.heap.size w (w.alloc (.cells #[.slice a0 s.length cap0, .slice a1 p.length cap1] 25)) := by go_grown
  obtain ⟨c0, c1⟩ := sys_cells w (.slice a0 s.length cap0) (.slice a1 p.length cap1) 25
  have hF := Fr.start (w.alloc (.cells #[.slice a0 s.length cap0, .slice a1 p.length cap1] 25))
  have hf2 := hf.step hBW
  have hp2 := hp.step hBW
  have hb2 := hs.step hBW
  have hx2 := (hx.keep hBW).wide hBW.size
  have hy2 := (hy.keep hBW).wide hBW.size
  have hq2 := (hq.keep hBW).wide hBW.size
  have HB1 := fun v0 v1 v w h1 h2 h3 => hid (nrBound_any sHalf v0 [(0, 0)] v1 [(-100, 100)] v w h1 h2 h3)
  have HP1 := fun v0 v1 v w h1 h2 h3 => hid (nrPull_any sHalf v0 [(0, 0)] v1 [(-100, 100)] v w h1 h2 h3)
  rw [half_bnd] at HB1
  rw [half_pull] at HP1
  have HB2 := fun w h1 h2 h3 => hid (nrBound_any s (.slice a0 s.length cap0) p (.slice a1 p.length cap1) b (.slice a2 b.length cap2) w h1 h2 h3)
  clear hf hp hs hx hy hq
  have y0 := c0
  have y1 := c1
  have kn : ((Um.bndAll s p b).2 != 0) = false := by simpa using hn
  have HHX := fun w h1 h2 => hid (bhas_any b (.slice a2 b.length cap2) x (.slice a3 x.length cap3) w h1 h2)
  have HHY := fun w h1 h2 => hid (bhas_any b (.slice a2 b.length cap2) y (.slice a4 y.length cap4) w h1 h2)
  have k1 : (Um.hasF b x != 0) = false := by simpa using f1
  have k2 : (Um.hasF b y != 0) = false := by simpa using f2
  have HPX := fun w h1 h2 h3 h4 => hid (spoint_any s (.slice a0 s.length cap0) p (.slice a1 p.length cap1) x (.slice a3 x.length cap3) q (.slice a5 q.length cap5) w h1 h2 h3 h4)
  have HPY := fun w h1 h2 h3 h4 => hid (spoint_any s (.slice a0 s.length cap0) p (.slice a1 p.length cap1) y (.slice a4 y.length cap4) q (.slice a5 q.length cap5) w h1 h2 h3 h4)
  have GA := hid g1
  have GB := hid g2
  clear hn f1 f2 g1 g2
  generalize Um.bndAll s p b = BN at *
  generalize Um.hasF b x = F1 at *
  generalize Um.hasF b y = F2 at *
  generalize hasA b x = A1 at *
  generalize hasA b y = A2 at *
  obtain rfl : true = A1 := GA.out.symm
  obtain rfl : true = A2 := GB.out.symm
  clear GA GB
  generalize Um.movAll s p x q = MU at *
  generalize Um.movAll s p y q = MV at *
  replace h := hid h
  go_enter Try.func3, Try.ntmps3
  go_upto_region 2 with fail
  have hLf : Lf (((((w.alloc (.cells #[.slice a0 s.length cap0, .slice a1 p.length cap1] 25)).alloc (.cells #[.int .i64 500, .int .i64 1, .int .i64 0, .int .i64 0] 29)).alloc (.cells #[.slice (some ⟨w.heap.size + 1, 0, none⟩) 1 1] 30)).alloc (.cells #[.int .i64 0, .int .i64 0] 32)).alloc (.cells #[.slice (some ⟨w.heap.size + 1 + 1, 0, none⟩) 1 1, .slice (some ⟨w.heap.size + 1 + 1 + 1, 0, none⟩) 1 1] 25)).heap.size (((((w.alloc (.cells #[.slice a0 s.length cap0, .slice a1 p.length cap1] 25)).alloc (.cells #[.int .i64 500, .int .i64 1, .int .i64 0, .int .i64 0] 29)).alloc (.cells #[.slice (some ⟨w.heap.size + 1, 0, none⟩) 1 1] 30)).alloc (.cells #[.int .i64 0, .int .i64 0] 32)).alloc (.cells #[.slice (some ⟨w.heap.size + 1 + 1, 0, none⟩) 1 1, .slice (some ⟨w.heap.size + 1 + 1 + 1, 0, none⟩) 1 1] 25)) (.slice (some ⟨w.heap.size + 1 + 1, 0, none⟩) 1 1) sHalf := ((lit_lf (by simp) (by decide) (lit_lt (500, 1, 0, 0) (by simp) (by decide))).alloc _).alloc _
  have hLs : Ls (((((w.alloc (.cells #[.slice a0 s.length cap0, .slice a1 p.length cap1] 25)).alloc (.cells #[.int .i64 500, .int .i64 1, .int .i64 0, .int .i64 0] 29)).alloc (.cells #[.slice (some ⟨w.heap.size + 1, 0, none⟩) 1 1] 30)).alloc (.cells #[.int .i64 0, .int .i64 0] 32)).alloc (.cells #[.slice (some ⟨w.heap.size + 1 + 1, 0, none⟩) 1 1, .slice (some ⟨w.heap.size + 1 + 1 + 1, 0, none⟩) 1 1] 25)).heap.size (((((w.alloc (.cells #[.slice a0 s.length cap0, .slice a1 p.length cap1] 25)).alloc (.cells #[.int .i64 500, .int .i64 1, .int .i64 0, .int .i64 0] 29)).alloc (.cells #[.slice (some ⟨w.heap.size + 1, 0, none⟩) 1 1] 30)).alloc (.cells #[.int .i64 0, .int .i64 0] 32)).alloc (.cells #[.slice (some ⟨w.heap.size + 1 + 1, 0, none⟩) 1 1, .slice (some ⟨w.heap.size + 1 + 1 + 1, 0, none⟩) 1 1] 25)) (.slice (some ⟨w.heap.size + 1 + 1 + 1, 0, none⟩) 1 1) [(0, 0)] := (lit_ls 0 0 (by simp) (by decide)).alloc _
  have hSy := SyAt.new ((((w.alloc (.cells #[.slice a0 s.length cap0, .slice a1 p.length cap1] 25)).alloc (.cells #[.int .i64 500, .int .i64 1, .int .i64 0, .int .i64 0] 29)).alloc (.cells #[.slice (some ⟨w.heap.size + 1, 0, none⟩) 1 1] 30)).alloc (.cells #[.int .i64 0, .int .i64 0] 32)) (.slice (some ⟨w.heap.size + 1 + 1, 0, none⟩) 1 1) (.slice (some ⟨w.heap.size + 1 + 1 + 1, 0, none⟩) 1 1) 25 (B := w.heap.size + 1 + 1 + 1 + 1) (by simp)
  replace hF := (((hF.alloc (.cells #[.int .i64 500, .int .i64 1, .int .i64 0, .int .i64 0] 29)).alloc (.cells #[.slice (some ⟨w.heap.size + 1, 0, none⟩) 1 1] 30)).alloc (.cells #[.int .i64 0, .int .i64 0] 32)).alloc (.cells #[.slice (some ⟨w.heap.size + 1 + 1, 0, none⟩) 1 1, .slice (some ⟨w.heap.size + 1 + 1 + 1, 0, none⟩) 1 1] 25)
  generalize (((((w.alloc (.cells #[.slice a0 s.length cap0, .slice a1 p.length cap1] 25)).alloc (.cells #[.int .i64 500, .int .i64 1, .int .i64 0, .int .i64 0] 29)).alloc (.cells #[.slice (some ⟨w.heap.size + 1, 0, none⟩) 1 1] 30)).alloc (.cells #[.int .i64 0, .int .i64 0] 32)).alloc (.cells #[.slice (some ⟨w.heap.size + 1 + 1, 0, none⟩) 1 1, .slice (some ⟨w.heap.size + 1 + 1 + 1, 0, none⟩) 1 1] 25)) = W1 at *
  generalize w.heap.size + 1 + 1 + 1 + 1 = BY at *
  generalize w.heap.size + 1 + 1 + 1 = B3 at *
  generalize w.heap.size + 1 + 1 = B2 at *
  clear y0 y1
  have g0 := hSy.c0
  have g1 := hSy.c1
  go_upto_region 4 with (first | (go_at_call 6; refine (HB1 _ _ _ _ (hLf.alloc _) (hLs.alloc _) (lit_ls (-100) 100 (by simp) (by decide))).out.mono ?_; rintro e wk ⟨rfl, hb⟩; replace hLf := (hLf.alloc _).step hb; replace hLs := (hLs.alloc _).step hb; replace hSy := (hSy.alloc _).step hb; replace hF := (hF.alloc _).step hb; clear hb HB1 g0 g1; have g0 := hSy.c0; have g1 := hSy.c1) | (go_at_call 7; refine (HP1 _ _ _ _ (hLf.alloc _) (hLs.alloc _) (lit_ls (-100) 100 (by simp) (by decide))).out.mono ?_; rintro e wl ⟨rfl, hb⟩; replace hF := (hF.alloc _).step hb; clear hb HP1 g0 g1 hSy hLf hLs))
  have y0 := (hF.below.cell (p := ⟨w.heap.size, 0, none⟩) h1).trans c0
  have y1 := (hF.below.cell (p := ⟨w.heap.size, 1, none⟩) h1).trans c1
  go_upto_region 7 with (go_at_call 6; refine (HB2 _ (hF.lf hf2) (hF.ls hp2) (hF.ls hb2)).out.mono ?_; rintro e wn ⟨rfl, hb⟩; replace hF := hF.step hb; clear hb; clear y0 y1; have y0 := (hF.below.cell (p := ⟨w.heap.size, 0, none⟩) h1).trans c0; have y1 := (hF.below.cell (p := ⟨w.heap.size, 1, none⟩) h1).trans c1; clear HB2)
  go_upto_region 11 with (first | (go_at_call 8; refine (HHX _ (hF.ls hb2) (hF.li hx2)).out.mono ?_; rintro e wn ⟨rfl, hb⟩; replace hF := hF.step hb; clear hb; clear y0 y1; have y0 := (hF.below.cell (p := ⟨w.heap.size, 0, none⟩) h1).trans c0; have y1 := (hF.below.cell (p := ⟨w.heap.size, 1, none⟩) h1).trans c1; clear HHX) | (go_at_call 8; refine (HHY _ (hF.ls hb2) (hF.li hy2)).out.mono ?_; rintro e wn ⟨rfl, hb⟩; replace hF := hF.step hb; clear hb; clear y0 y1; have y0 := (hF.below.cell (p := ⟨w.heap.size, 0, none⟩) h1).trans c0; have y1 := (hF.below.cell (p := ⟨w.heap.size, 1, none⟩) h1).trans c1; clear HHY))
  go_cut [97] from 29 to 97 (fun v wr => v = .bool false ∧ wr = wn)
  case first =>
    clear HPX HPY
    go_wp2
    go_meet
    case rel => exact ⟨rfl, rfl⟩
  case rest =>
   obtain ⟨rfl, rfl⟩ := hcut
   go_upto_region 15 with (first | (go_at_call 9; refine (HPX _ (hF.lf hf2) (hF.ls hp2) (hF.li hx2) (hF.li hq2)).out.mono ?_; rintro e wn ⟨r1, rfl, hu, hb⟩; replace hF := hF.step hb; clear hb; clear y0 y1; have y0 := (hF.below.cell (p := ⟨w.heap.size, 0, none⟩) h1).trans c0; have y1 := (hF.below.cell (p := ⟨w.heap.size, 1, none⟩) h1).trans c1; clear HPX) | (go_at_call 9; refine (HPY _ (hF.lf hf2) (hF.ls hp2) (hF.li hy2) (hF.li hq2)).out.mono ?_; rintro e wn ⟨r2, rfl, hv, hb⟩; replace hu := (hu.keep hb).wide hb.size; replace hF := hF.step hb; clear hb; clear y0 y1; have y0 := (hF.below.cell (p := ⟨w.heap.size, 0, none⟩) h1).trans c0; have y1 := (hF.below.cell (p := ⟨w.heap.size, 1, none⟩) h1).trans c1; clear HPY))
   obtain ⟨s6, d6, e6, -⟩ := (id hu)
   subst e6
   obtain ⟨s7, d7, e7, -⟩ := (id hv)
   subst e7
   by_cases m1 : MU.2 = 0
   case neg =>
    have k3 : (MU.2 != 0) = true := by simpa using m1
    clear h m1
    go_wp2
    go_returns
    exact ⟨rfl, hBW.trans (hF.below.mono hBW.size)⟩
   have k3 : (MU.2 != 0) = false := by simpa using m1
   by_cases m2 : MV.2 = 0
   case neg =>
    have k4 : (MV.2 != 0) = true := by simpa using m2
    clear h m1 m2
    go_wp2
    go_returns
    exact ⟨rfl, hBW.trans (hF.below.mono hBW.size)⟩
   exact absurd ⟨m1, m2⟩ h.out

set_option maxRecDepth 100000 in
set_option maxHeartbeats 32000000 in
theorem walk_main (s : List (List Um.Tm)) (v0 : Value) (p : List (Int × Int)) (v1 : Value) (b : List (Int × Int)) (v : Value) (x : List Int) (u : Value) (y : List Int) (t : Value) (q : List Int) (r : Value) (w : World) (hf : Lf w.heap.size w v0 s) (hp : Ls w.heap.size w v1 p) (hs : Ls w.heap.size w v b) (hx : Li w.heap.size w u x) (hy : Li w.heap.size w t y) (hq : Li w.heap.size w r q) (hn : (Um.bndAll s p b).2 = 0) (f1 : Um.hasF b x = 0) (f2 : Um.hasF b y = 0) (g1 : hasA b x = true) (g2 : hasA b y = true) (m1 : (Um.movAll s p x q).2 = 0) (m2 : (Um.movAll s p y q).2 = 0) :
    Calls Try.prog 3 #[.agg #[v0, v1], v, u, t, r] w fun e w' => e = .returned (.bool true) ∧ Below w.heap.size w w' := by
  have v0 := errV_none
  have q1 := errG
  have q2 := errGn
  have q3 := errE
  have q4 := errN
  obtain ⟨a0, cap0, rfl, -⟩ := (id hf)
  obtain ⟨a1, cap1, rfl, -⟩ := (id hp)
  obtain ⟨a2, cap2, rfl, -⟩ := (id hs)
  obtain ⟨a3, cap3, rfl, -⟩ := (id hx)
  obtain ⟨a4, cap4, rfl, -⟩ := (id hy)
  obtain ⟨a5, cap5, rfl, -⟩ := (id hq)
  have h1 : w.heap.size < (w.alloc (.cells #[.slice a0 s.length cap0, .slice a1 p.length cap1] 25)).heap.size := by simp
  have hBW : Below w.heap.size w (w.alloc (.cells #[.slice a0 s.length cap0, .slice a1 p.length cap1] 25)) := by go_grown
  obtain ⟨c0, c1⟩ := sys_cells w (.slice a0 s.length cap0) (.slice a1 p.length cap1) 25
  have hF := Fr.start (w.alloc (.cells #[.slice a0 s.length cap0, .slice a1 p.length cap1] 25))
  have hf2 := hf.step hBW
  have hp2 := hp.step hBW
  have hb2 := hs.step hBW
  have hx2 := (hx.keep hBW).wide hBW.size
  have hy2 := (hy.keep hBW).wide hBW.size
  have hq2 := (hq.keep hBW).wide hBW.size
  have HB1 := fun v0 v1 v w h1 h2 h3 => hid (nrBound_any sHalf v0 [(0, 0)] v1 [(-100, 100)] v w h1 h2 h3)
  have HP1 := fun v0 v1 v w h1 h2 h3 => hid (nrPull_any sHalf v0 [(0, 0)] v1 [(-100, 100)] v w h1 h2 h3)
  rw [half_bnd] at HB1
  rw [half_pull] at HP1
  have HB2 := fun w h1 h2 h3 => hid (nrBound_any s (.slice a0 s.length cap0) p (.slice a1 p.length cap1) b (.slice a2 b.length cap2) w h1 h2 h3)
  clear hf hp hs hx hy hq
  have y0 := c0
  have y1 := c1
  have kn : ((Um.bndAll s p b).2 != 0) = false := by simpa using hn
  have HHX := fun w h1 h2 => hid (bhas_any b (.slice a2 b.length cap2) x (.slice a3 x.length cap3) w h1 h2)
  have HHY := fun w h1 h2 => hid (bhas_any b (.slice a2 b.length cap2) y (.slice a4 y.length cap4) w h1 h2)
  have k1 : (Um.hasF b x != 0) = false := by simpa using f1
  have k2 : (Um.hasF b y != 0) = false := by simpa using f2
  have HPX := fun w h1 h2 h3 h4 => hid (spoint_any s (.slice a0 s.length cap0) p (.slice a1 p.length cap1) x (.slice a3 x.length cap3) q (.slice a5 q.length cap5) w h1 h2 h3 h4)
  have HPY := fun w h1 h2 h3 h4 => hid (spoint_any s (.slice a0 s.length cap0) p (.slice a1 p.length cap1) y (.slice a4 y.length cap4) q (.slice a5 q.length cap5) w h1 h2 h3 h4)
  obtain ⟨pX, lX, bX⟩ := has_parts f1 g1
  obtain ⟨pY, lY, -⟩ := has_parts f2 g2
  have HSX := hid (Um.has_small bX pX lX)
  have HSY := hid (Um.has_small bX pY lY)
  have HSU := hid (Um.mov_small m1)
  have HSV := hid (Um.mov_small m2)
  have hlu := Um.mov_len m1
  have hlv := Um.mov_len m2
  have HLU : Hid ((Um.movAll s p x q).1.length = (Um.movAll s p y q).1.length) := hid (by rw [hlu, hlv])
  have HLX : Hid (x.length = y.length) := hid (by rw [lX, lY])
  have b3 := Um.box_len bX
  have hx3 : x.length ≤ 3 := by omega
  obtain ⟨r0, eb, nb⟩ := Um.bndAll_good hn
  have b4 := Um.bndN_ok nb
  rw [← eb] at b4
  have hBN := (⟨b4.1, b4.2.1⟩ : 0 ≤ (Um.bndAll s p b).1 ∧ (Um.bndAll s p b).1 ≤ 1000000000)
  have hs3 := (Um.sys_ok.1 (Um.ready_ok.1 r0).1).2.1
  have hs0 := (Um.sys_ok.1 (Um.ready_ok.1 r0).1).1
  have hu3 : (Um.movAll s p x q).1.length ≤ 3 := by omega
  have x0 : x ≠ [] := fun e => by rw [e] at lX; have : (0 : Nat) = b.length := lX; omega
  have y0' : y ≠ [] := fun e => by rw [e] at lY; have : (0 : Nat) = b.length := lY; omega
  have sl : 0 < s.length := List.length_pos_iff.2 hs0
  have u0 : (Um.movAll s p x q).1 ≠ [] := fun e => by rw [e] at hlu; have : (0 : Nat) = s.length := hlu; omega
  have v0' : (Um.movAll s p y q).1 ≠ [] := fun e => by rw [e] at hlv; have : (0 : Nat) = s.length := hlv; omega
  have HFN := hid (fun k (hk : k ≤ x.length) => Um.farN_small (x := x) (y := y) (k := k) (fun j hj => HSX.out j (by omega)) (fun j hj => HSY.out j (by have := HLX.out; omega)))
  have HF0 := hid (fun k => (Um.farN_has x y k).1)
  have HPL := hid (Um.bnd_pulls hn pX pY m1 m2 (Um.farN_has x y x.length).1 (Um.farN_has x y x.length).2)
  have k3 : ((Um.movAll s p x q).2 != 0) = false := by simpa using m1
  have k4 : ((Um.movAll s p y q).2 != 0) = false := by simpa using m2
  have t1 : (((Um.movAll s p x q).1.length : Int) != ((Um.movAll s p y q).1.length : Int)) = false := by rw [hlu, hlv]; simp
  have t2 : ((x.length : Int) != (y.length : Int)) = false := by rw [lX, lY]; simp
  have GA := hid g1
  have GB := hid g2
  have hmx : Try.prog.follows .mixedOrders = true := by kernel_rfl
  clear hn f1 f2 g1 g2 m1 m2 pX pY lX lY bX hlu hlv b3 r0 eb nb b4 hs3 hs0 sl
  generalize Um.bndAll s p b = BN at *
  generalize Um.hasF b x = F1 at *
  generalize Um.hasF b y = F2 at *
  generalize hasA b x = A1 at *
  generalize hasA b y = A2 at *
  obtain rfl : true = A1 := GA.out.symm
  obtain rfl : true = A2 := GB.out.symm
  clear GA GB
  generalize Um.movAll s p x q = MU at *
  generalize Um.movAll s p y q = MV at *
  have HBN := hid hBN
  have HX0 := hid x0
  have HY0 := hid y0'
  have HU0 := hid u0
  have HV0 := hid v0'
  clear hBN x0 y0' u0 v0'
  go_enter Try.func3, Try.ntmps3
  go_upto_region 2 with fail
  have hLf : Lf (((((w.alloc (.cells #[.slice a0 s.length cap0, .slice a1 p.length cap1] 25)).alloc (.cells #[.int .i64 500, .int .i64 1, .int .i64 0, .int .i64 0] 29)).alloc (.cells #[.slice (some ⟨w.heap.size + 1, 0, none⟩) 1 1] 30)).alloc (.cells #[.int .i64 0, .int .i64 0] 32)).alloc (.cells #[.slice (some ⟨w.heap.size + 1 + 1, 0, none⟩) 1 1, .slice (some ⟨w.heap.size + 1 + 1 + 1, 0, none⟩) 1 1] 25)).heap.size (((((w.alloc (.cells #[.slice a0 s.length cap0, .slice a1 p.length cap1] 25)).alloc (.cells #[.int .i64 500, .int .i64 1, .int .i64 0, .int .i64 0] 29)).alloc (.cells #[.slice (some ⟨w.heap.size + 1, 0, none⟩) 1 1] 30)).alloc (.cells #[.int .i64 0, .int .i64 0] 32)).alloc (.cells #[.slice (some ⟨w.heap.size + 1 + 1, 0, none⟩) 1 1, .slice (some ⟨w.heap.size + 1 + 1 + 1, 0, none⟩) 1 1] 25)) (.slice (some ⟨w.heap.size + 1 + 1, 0, none⟩) 1 1) sHalf := ((lit_lf (by simp) (by decide) (lit_lt (500, 1, 0, 0) (by simp) (by decide))).alloc _).alloc _
  have hLs : Ls (((((w.alloc (.cells #[.slice a0 s.length cap0, .slice a1 p.length cap1] 25)).alloc (.cells #[.int .i64 500, .int .i64 1, .int .i64 0, .int .i64 0] 29)).alloc (.cells #[.slice (some ⟨w.heap.size + 1, 0, none⟩) 1 1] 30)).alloc (.cells #[.int .i64 0, .int .i64 0] 32)).alloc (.cells #[.slice (some ⟨w.heap.size + 1 + 1, 0, none⟩) 1 1, .slice (some ⟨w.heap.size + 1 + 1 + 1, 0, none⟩) 1 1] 25)).heap.size (((((w.alloc (.cells #[.slice a0 s.length cap0, .slice a1 p.length cap1] 25)).alloc (.cells #[.int .i64 500, .int .i64 1, .int .i64 0, .int .i64 0] 29)).alloc (.cells #[.slice (some ⟨w.heap.size + 1, 0, none⟩) 1 1] 30)).alloc (.cells #[.int .i64 0, .int .i64 0] 32)).alloc (.cells #[.slice (some ⟨w.heap.size + 1 + 1, 0, none⟩) 1 1, .slice (some ⟨w.heap.size + 1 + 1 + 1, 0, none⟩) 1 1] 25)) (.slice (some ⟨w.heap.size + 1 + 1 + 1, 0, none⟩) 1 1) [(0, 0)] := (lit_ls 0 0 (by simp) (by decide)).alloc _
  have hSy := SyAt.new ((((w.alloc (.cells #[.slice a0 s.length cap0, .slice a1 p.length cap1] 25)).alloc (.cells #[.int .i64 500, .int .i64 1, .int .i64 0, .int .i64 0] 29)).alloc (.cells #[.slice (some ⟨w.heap.size + 1, 0, none⟩) 1 1] 30)).alloc (.cells #[.int .i64 0, .int .i64 0] 32)) (.slice (some ⟨w.heap.size + 1 + 1, 0, none⟩) 1 1) (.slice (some ⟨w.heap.size + 1 + 1 + 1, 0, none⟩) 1 1) 25 (B := w.heap.size + 1 + 1 + 1 + 1) (by simp)
  replace hF := (((hF.alloc (.cells #[.int .i64 500, .int .i64 1, .int .i64 0, .int .i64 0] 29)).alloc (.cells #[.slice (some ⟨w.heap.size + 1, 0, none⟩) 1 1] 30)).alloc (.cells #[.int .i64 0, .int .i64 0] 32)).alloc (.cells #[.slice (some ⟨w.heap.size + 1 + 1, 0, none⟩) 1 1, .slice (some ⟨w.heap.size + 1 + 1 + 1, 0, none⟩) 1 1] 25)
  generalize (((((w.alloc (.cells #[.slice a0 s.length cap0, .slice a1 p.length cap1] 25)).alloc (.cells #[.int .i64 500, .int .i64 1, .int .i64 0, .int .i64 0] 29)).alloc (.cells #[.slice (some ⟨w.heap.size + 1, 0, none⟩) 1 1] 30)).alloc (.cells #[.int .i64 0, .int .i64 0] 32)).alloc (.cells #[.slice (some ⟨w.heap.size + 1 + 1, 0, none⟩) 1 1, .slice (some ⟨w.heap.size + 1 + 1 + 1, 0, none⟩) 1 1] 25)) = W1 at *
  generalize w.heap.size + 1 + 1 + 1 + 1 = BY at *
  generalize w.heap.size + 1 + 1 + 1 = B3 at *
  generalize w.heap.size + 1 + 1 = B2 at *
  clear y0 y1
  have g0 := hSy.c0
  have g1 := hSy.c1
  go_upto_region 4 with (first | (go_at_call 6; refine (HB1 _ _ _ _ (hLf.alloc _) (hLs.alloc _) (lit_ls (-100) 100 (by simp) (by decide))).out.mono ?_; rintro e wk ⟨rfl, hb⟩; replace hLf := (hLf.alloc _).step hb; replace hLs := (hLs.alloc _).step hb; replace hSy := (hSy.alloc _).step hb; replace hF := (hF.alloc _).step hb; clear hb HB1 g0 g1; have g0 := hSy.c0; have g1 := hSy.c1) | (go_at_call 7; refine (HP1 _ _ _ _ (hLf.alloc _) (hLs.alloc _) (lit_ls (-100) 100 (by simp) (by decide))).out.mono ?_; rintro e wl ⟨rfl, hb⟩; replace hF := (hF.alloc _).step hb; clear hb HP1 g0 g1 hSy hLf hLs))
  have y0 := (hF.below.cell (p := ⟨w.heap.size, 0, none⟩) h1).trans c0
  have y1 := (hF.below.cell (p := ⟨w.heap.size, 1, none⟩) h1).trans c1
  go_upto_region 7 with (go_at_call 6; refine (HB2 _ (hF.lf hf2) (hF.ls hp2) (hF.ls hb2)).out.mono ?_; rintro e wn ⟨rfl, hb⟩; replace hF := hF.step hb; clear hb; clear y0 y1; have y0 := (hF.below.cell (p := ⟨w.heap.size, 0, none⟩) h1).trans c0; have y1 := (hF.below.cell (p := ⟨w.heap.size, 1, none⟩) h1).trans c1; clear HB2)
  go_upto_region 11 with (first | (go_at_call 8; refine (HHX _ (hF.ls hb2) (hF.li hx2)).out.mono ?_; rintro e wn ⟨rfl, hb⟩; replace hF := hF.step hb; clear hb; clear y0 y1; have y0 := (hF.below.cell (p := ⟨w.heap.size, 0, none⟩) h1).trans c0; have y1 := (hF.below.cell (p := ⟨w.heap.size, 1, none⟩) h1).trans c1; clear HHX) | (go_at_call 8; refine (HHY _ (hF.ls hb2) (hF.li hy2)).out.mono ?_; rintro e wn ⟨rfl, hb⟩; replace hF := hF.step hb; clear hb; clear y0 y1; have y0 := (hF.below.cell (p := ⟨w.heap.size, 0, none⟩) h1).trans c0; have y1 := (hF.below.cell (p := ⟨w.heap.size, 1, none⟩) h1).trans c1; clear HHY))
  go_cut [97] from 29 to 97 (fun v wr => v = .bool false ∧ wr = wn)
  case first =>
    clear HPX HPY
    go_wp2
    go_meet
    case rel => exact ⟨rfl, rfl⟩
  case rest =>
   obtain ⟨rfl, rfl⟩ := hcut
   go_upto_region 15 with (first | (go_at_call 9; refine (HPX _ (hF.lf hf2) (hF.ls hp2) (hF.li hx2) (hF.li hq2)).out.mono ?_; rintro e wn ⟨r1, rfl, hu, hb⟩; replace hF := hF.step hb; clear hb; clear y0 y1; have y0 := (hF.below.cell (p := ⟨w.heap.size, 0, none⟩) h1).trans c0; have y1 := (hF.below.cell (p := ⟨w.heap.size, 1, none⟩) h1).trans c1; clear HPX) | (go_at_call 9; refine (HPY _ (hF.lf hf2) (hF.ls hp2) (hF.li hy2) (hF.li hq2)).out.mono ?_; rintro e wn ⟨r2, rfl, hv, hb⟩; replace hu := (hu.keep hb).wide hb.size; replace hF := hF.step hb; clear hb; clear y0 y1; have y0 := (hF.below.cell (p := ⟨w.heap.size, 0, none⟩) h1).trans c0; have y1 := (hF.below.cell (p := ⟨w.heap.size, 1, none⟩) h1).trans c1; clear HPY))
   obtain ⟨s6, d6, e6, -⟩ := (id hu)
   subst e6
   obtain ⟨s7, d7, e7, -⟩ := (id hv)
   subst e7
   go_cut [131] from 98 to 131 (fun v wr => v = .bool false ∧ wr = wn)
   case first =>
     clear HSX HSY HSU HSV HFN HF0 HPL
     go_wp2
     go_meet
     case rel => exact ⟨rfl, rfl⟩
   case rest =>
    obtain ⟨rfl, rfl⟩ := hcut
    have hx3' := hF.li hx2
    have hy3' := hF.li hy2
    obtain ⟨bx, ox, cx, ex, lx, xs⟩ := hx3'.out HX0.out
    obtain ⟨bw, ow, cw, ew, lw, ws⟩ := hy3'.out HY0.out
    obtain ⟨bu, ou, cu, eu, lu, us⟩ := hu.out HU0.out
    obtain ⟨bv, ov, cv, ev, lv, vs⟩ := hv.out HV0.out
    injection ex with ex1 ex2 ex3
    injection ew with ew1 ew2 ew3
    injection eu with eu1 eu2 eu3
    injection ev with ev1 ev2 ev3
    subst ex1 ex3 ew1 ew3 eu1 eu3 ev1 ev3
    have HXS := hid xs
    have HWS := hid ws
    have HUS := hid us
    have HVS := hid vs
    have LXX := hid lx
    have LWW := hid lw
    have LUU := hid lu
    have LVV := hid lv
    clear ex2 ew2 eu2 ev2 hx3' hy3' hx2 hy2 hu hv xs ws us vs lx lw lu lv HX0 HY0 HU0 HV0 k1 k2 k3 k4 kn t1 t2
    go_wp2
    go_loopw [24, 25] (fun m i wr => ∃ k : Nat, k ≤ x.length ∧ i = .int .i64 k ∧ m = .int .i64 (Um.farN x y k) ∧ Fr wc wr []) (fun _ i _ => x.length - (intOf i).toNat)
    case atStart => exact ⟨0, Nat.zero_le _, rfl, rfl, Fr.start wc⟩
    case round =>
     obtain ⟨k, hk, rfl, rfl, hG⟩ := hrel
     by_cases hkl : k < x.length
     · have hkk : (k : Int) < (x.length : Int) := by omega
       have hky : k < y.length := by rw [← HLX.out]; exact hkl
       have hkk2 : (k : Int) < (y.length : Int) := by omega
       have qx := HSX.out k hkl
       have qy := HSY.out k hky
       have HNX := hid (Um.farN_succ x y k)
       have cA : wr.cell? ⟨bx, ox + k, none⟩ = some (.int .i64 (Um.nm x k)) := (hG.below.cell (p := ⟨bx, ox + k, none⟩) LXX.out).trans (HXS.out k hkl)
       have cB : wr.cell? ⟨bw, ow + k, none⟩ = some (.int .i64 (Um.nm y k)) := (hG.below.cell (p := ⟨bw, ow + k, none⟩) LWW.out).trans (HWS.out k hky)
       have LA := hid (Nat.lt_of_lt_of_le LXX.out hG.size)
       have LB := hid (Nat.lt_of_lt_of_le LWW.out hG.size)
       clear HBN HLX HXS HWS HUS HVS HLU HSX HSY HSU HSV hky HPL HFN HF0
       generalize Um.nm x k = AA at *
       generalize Um.nm y k = BB at *
       have HFR := fun w => hid (rFar0_b (AA - BB) w (by omega) (by omega))
       have HWR : Hid (IntKind.i64.wrap (AA - BB) = AA - BB) := hid (by rw [IntKind.wrap_i64]; omega)
       clear qx qy
       generalize Um.farN x y k = FK at *
       go_wp2
       obtain ⟨Inv, hInv⟩ : ∃ Inv : Array Bool → Act → World → Prop, ∀ listed aq W', Inv listed aq W' ↔ (∃ v138 v139 v140 v141 v142 v143 v144 v145 v146 v147 v26 : Value, aq = { tmps := #[Value.agg #[Value.slice a0 s.length cap0, Value.slice a1 p.length cap1], Value.slice a2 b.length cap2, Value.slice (some { block := bx, off := ox }) x.length cap3, Value.slice (some { block := bw, off := ow }) y.length cap4, Value.slice a5 q.length cap5, Value.pointer (some { block := w.heap.size, off := 0 }), undef, undef, undef, undef, Value.bool false, Value.pointer (some { block := BY, off := 0 }), Value.int IntKind.i64 500, Value.nilIface, Value.bool true, Value.nilIface, Value.int IntKind.i64 BN.fst, errV BN.snd, Value.bool true, errV MU.snd, Value.bool true, errV MV.snd, Value.slice (some { block := bu, off := ou }) MU.fst.length d6, Value.slice (some { block := bv, off := ov }) MV.fst.length d7, Value.int IntKind.i64 FK, Value.int IntKind.i64 ↑k, v26, undef, undef, u29, u30, u31, u32, u33, u34, u35, u36, u37, u38, u39, u40, u41, u42, u43, u44, u45, u46, u47, u48, u49, u50, u51, u52, u53, u54, u55, u56, u57, u58, u59, u60, u61, u62, u63, u64, u65, u66, u67, u68, u69, u70, u71, u72, u73, u74, u75, u76, u77, u78, u79, u80, u81, u82, u83, u84, u85, u86, u87, u88, u89, u90, u91, u92, u93, u94, u95, u96, Value.bool false, u98, u99, u100, u101, u102, u103, u104, u105, u106, u107, u108, u109, u110, u111, u112, u113, u114, u115, u116, u117, u118, u119, u120, u121, u122, u123, u124, u125, u126, u127, u128, u129, u130, Value.bool false, Value.int IntKind.i64 ↑k, Value.slice (some { block := bx, off := ox }) x.length cap3, Value.int IntKind.i64 ↑x.length, Value.bool true, u136, u137, v138, v139, v140, v141, v142, v143, v144, v145, v146, v147, u148, u149, u150, u151, undef, undef, undef, undef, undef, undef, undef, undef, undef, undef, undef, undef, undef, undef, undef, undef, undef, undef, undef, undef, undef, undef, undef], defers := [] } ∧ Below (wr).heap.size (wr) W' ∧ (listed.getD 0 false = true → v138 = Value.slice (some { block := bx, off := ox }) x.length cap3) ∧ (listed.getD 1 false = true → v139 = Value.int IntKind.i64 ↑k) ∧ (listed.getD 2 false = true → v140 = Value.pointer (some ⟨bx, ox + k, none⟩)) ∧ (listed.getD 3 false = true → v141 = Value.int .i64 AA) ∧ (listed.getD 4 false = true → v142 = Value.slice (some { block := bw, off := ow }) y.length cap4) ∧ (listed.getD 5 false = true → v143 = Value.int IntKind.i64 ↑k) ∧ (listed.getD 6 false = true → v144 = Value.pointer (some ⟨bw, ow + k, none⟩)) ∧ (listed.getD 7 false = true → v145 = Value.int .i64 BB) ∧ (listed.getD 8 false = true → v146 = Value.int .i64 (AA - BB)) ∧ (listed.getD 9 false = true → v147 = Value.int .i64 (Um.ab (AA - BB))) ∧ (listed.getD 10 false = true → v26 = Value.int .i64 (Um.ab (AA - BB)))) := ⟨_, fun _ _ _ => Iff.rfl⟩
       have HI := hid hInv
       clear hInv
       refine Free.region hmx (by kernel_rfl) Inv ?s1 ?s2 ?s3
       case s1 =>
         exact (HI.out _ _ _).2 ⟨u138, u139, u140, u141, u142, u143, u144, u145, u146, u147, u26, rfl, (Below.refl _ _).drew, Free.not_yet, Free.not_yet, Free.not_yet, Free.not_yet, Free.not_yet, Free.not_yet, Free.not_yet, Free.not_yet, Free.not_yet, Free.not_yet, Free.not_yet⟩
       case s2 =>
         intro i listed aq W1 hix hne hnl hsz hv
         obtain ⟨v138, v139, v140, v141, v142, v143, v144, v145, v146, v147, v26, rfl, hW, l0, l1, l2, l3, l4, l5, l6, l7, l8, l9, l10⟩ := (HI.out _ _ _).1 hv
         clear hv
         replace hix : i < 11 := hix
         replace hsz : listed.size = 11 := hsz
         rcases (by omega : i = 0 ∨ i = 1 ∨ i = 2 ∨ i = 3 ∨ i = 4 ∨ i = 5 ∨ i = 6 ∨ i = 7 ∨ i = 8 ∨ i = 9 ∨ i = 10) with rfl | rfl | rfl | rfl | rfl | rfl | rfl | rfl | rfl | rfl | rfl
         · refine Free.op rfl rfl (fun K hK => ?_)
           go_simp
           exact hK _ _ ((HI.out _ _ _).2 ⟨_, v139, v140, v141, v142, v143, v144, v145, v146, v147, v26, rfl, hW, fun _ => rfl, Free.of_set (by decide) l1, Free.of_set (by decide) l2, Free.of_set (by decide) l3, Free.of_set (by decide) l4, Free.of_set (by decide) l5, Free.of_set (by decide) l6, Free.of_set (by decide) l7, Free.of_set (by decide) l8, Free.of_set (by decide) l9, Free.of_set (by decide) l10⟩)
         · refine Free.op rfl rfl (fun K hK => ?_)
           go_simp
           exact hK _ _ ((HI.out _ _ _).2 ⟨v138, _, v140, v141, v142, v143, v144, v145, v146, v147, v26, rfl, hW, Free.of_set (by decide) l0, fun _ => rfl, Free.of_set (by decide) l2, Free.of_set (by decide) l3, Free.of_set (by decide) l4, Free.of_set (by decide) l5, Free.of_set (by decide) l6, Free.of_set (by decide) l7, Free.of_set (by decide) l8, Free.of_set (by decide) l9, Free.of_set (by decide) l10⟩)
         · refine Free.op rfl rfl (fun K hK => ?_)
           obtain rfl := l0 (hne 0 (by kernel_rfl))
           obtain rfl := l1 (hne 1 (by kernel_rfl))
           go_simp
           exact hK _ _ ((HI.out _ _ _).2 ⟨_, _, _, v141, v142, v143, v144, v145, v146, v147, v26, rfl, hW, fun _ => rfl, fun _ => rfl, fun _ => rfl, Free.of_set (by decide) l3, Free.of_set (by decide) l4, Free.of_set (by decide) l5, Free.of_set (by decide) l6, Free.of_set (by decide) l7, Free.of_set (by decide) l8, Free.of_set (by decide) l9, Free.of_set (by decide) l10⟩)
         · have z1 := (hW.cell (p := ⟨bx, ox + k, none⟩) LA.out).trans cA
           refine Free.op rfl rfl (fun K hK => ?_)
           obtain rfl := l2 (hne 2 (by kernel_rfl))
           go_simp
           exact hK _ _ ((HI.out _ _ _).2 ⟨v138, v139, _, _, v142, v143, v144, v145, v146, v147, v26, rfl, hW, Free.of_set (by decide) l0, Free.of_set (by decide) l1, fun _ => rfl, fun _ => rfl, Free.of_set (by decide) l4, Free.of_set (by decide) l5, Free.of_set (by decide) l6, Free.of_set (by decide) l7, Free.of_set (by decide) l8, Free.of_set (by decide) l9, Free.of_set (by decide) l10⟩)
         · refine Free.op rfl rfl (fun K hK => ?_)
           go_simp
           exact hK _ _ ((HI.out _ _ _).2 ⟨v138, v139, v140, v141, _, v143, v144, v145, v146, v147, v26, rfl, hW, Free.of_set (by decide) l0, Free.of_set (by decide) l1, Free.of_set (by decide) l2, Free.of_set (by decide) l3, fun _ => rfl, Free.of_set (by decide) l5, Free.of_set (by decide) l6, Free.of_set (by decide) l7, Free.of_set (by decide) l8, Free.of_set (by decide) l9, Free.of_set (by decide) l10⟩)
         · refine Free.op rfl rfl (fun K hK => ?_)
           go_simp
           exact hK _ _ ((HI.out _ _ _).2 ⟨v138, v139, v140, v141, v142, _, v144, v145, v146, v147, v26, rfl, hW, Free.of_set (by decide) l0, Free.of_set (by decide) l1, Free.of_set (by decide) l2, Free.of_set (by decide) l3, Free.of_set (by decide) l4, fun _ => rfl, Free.of_set (by decide) l6, Free.of_set (by decide) l7, Free.of_set (by decide) l8, Free.of_set (by decide) l9, Free.of_set (by decide) l10⟩)
         · refine Free.op rfl rfl (fun K hK => ?_)
           obtain rfl := l4 (hne 4 (by kernel_rfl))
           obtain rfl := l5 (hne 5 (by kernel_rfl))
           go_simp
           exact hK _ _ ((HI.out _ _ _).2 ⟨v138, v139, v140, v141, _, _, _, v145, v146, v147, v26, rfl, hW, Free.of_set (by decide) l0, Free.of_set (by decide) l1, Free.of_set (by decide) l2, Free.of_set (by decide) l3, fun _ => rfl, fun _ => rfl, fun _ => rfl, Free.of_set (by decide) l7, Free.of_set (by decide) l8, Free.of_set (by decide) l9, Free.of_set (by decide) l10⟩)
         · have z1 := (hW.cell (p := ⟨bw, ow + k, none⟩) LB.out).trans cB
           refine Free.op rfl rfl (fun K hK => ?_)
           obtain rfl := l6 (hne 6 (by kernel_rfl))
           go_simp
           exact hK _ _ ((HI.out _ _ _).2 ⟨v138, v139, v140, v141, v142, v143, _, _, v146, v147, v26, rfl, hW, Free.of_set (by decide) l0, Free.of_set (by decide) l1, Free.of_set (by decide) l2, Free.of_set (by decide) l3, Free.of_set (by decide) l4, Free.of_set (by decide) l5, fun _ => rfl, fun _ => rfl, Free.of_set (by decide) l8, Free.of_set (by decide) l9, Free.of_set (by decide) l10⟩)
         · have hw : IntKind.i64.wrap (AA - BB) = AA - BB := HWR.out
           refine Free.op rfl rfl (fun K hK => ?_)
           obtain rfl := l3 (hne 3 (by kernel_rfl))
           obtain rfl := l7 (hne 7 (by kernel_rfl))
           go_simp
           exact hK _ _ ((HI.out _ _ _).2 ⟨v138, v139, v140, _, v142, v143, v144, _, _, v147, v26, rfl, hW, Free.of_set (by decide) l0, Free.of_set (by decide) l1, Free.of_set (by decide) l2, fun _ => rfl, Free.of_set (by decide) l4, Free.of_set (by decide) l5, Free.of_set (by decide) l6, fun _ => rfl, fun _ => rfl, Free.of_set (by decide) l9, Free.of_set (by decide) l10⟩)
         · refine Free.op rfl rfl (fun K hK => ?_)
           obtain rfl := l8 (hne 8 (by kernel_rfl))
           go_wp2_with (go_at_call 10; refine (HFR _).out.mono ?_; rintro e W3 ⟨rfl, hb⟩)
           exact (HI.out _ _ _).2 ⟨v138, v139, v140, v141, v142, v143, v144, v145, _, _, v26, rfl, hW.trans (hb.mono hW.size), Free.of_set (by decide) l0, Free.of_set (by decide) l1, Free.of_set (by decide) l2, Free.of_set (by decide) l3, Free.of_set (by decide) l4, Free.of_set (by decide) l5, Free.of_set (by decide) l6, Free.of_set (by decide) l7, fun _ => rfl, fun _ => rfl, Free.of_set (by decide) l10⟩
         · refine Free.op rfl rfl (fun K hK => ?_)
           obtain rfl := l9 (hne 9 (by kernel_rfl))
           go_simp
           exact hK _ _ ((HI.out _ _ _).2 ⟨v138, v139, v140, v141, v142, v143, v144, v145, v146, _, _, rfl, hW, Free.of_set (by decide) l0, Free.of_set (by decide) l1, Free.of_set (by decide) l2, Free.of_set (by decide) l3, Free.of_set (by decide) l4, Free.of_set (by decide) l5, Free.of_set (by decide) l6, Free.of_set (by decide) l7, Free.of_set (by decide) l8, fun _ => rfl, fun _ => rfl⟩)
       case s3 =>
         intro listed aq W1 hall hsz hv
         obtain ⟨v138, v139, v140, v141, v142, v143, v144, v145, v146, v147, v26, rfl, hW, l0, l1, l2, l3, l4, l5, l6, l7, l8, l9, l10⟩ := (HI.out _ _ _).1 hv
         clear hv HI
         obtain rfl := l0 (Free.listed_of hall hsz 0 (by decide))
         obtain rfl := l1 (Free.listed_of hall hsz 1 (by decide))
         obtain rfl := l2 (Free.listed_of hall hsz 2 (by decide))
         obtain rfl := l3 (Free.listed_of hall hsz 3 (by decide))
         obtain rfl := l4 (Free.listed_of hall hsz 4 (by decide))
         obtain rfl := l5 (Free.listed_of hall hsz 5 (by decide))
         obtain rfl := l6 (Free.listed_of hall hsz 6 (by decide))
         obtain rfl := l7 (Free.listed_of hall hsz 7 (by decide))
         obtain rfl := l8 (Free.listed_of hall hsz 8 (by decide))
         obtain rfl := l9 (Free.listed_of hall hsz 9 (by decide))
         obtain rfl := l10 (Free.listed_of hall hsz 10 (by decide))
         clear hall hsz
         replace hG := hG.step hW
         clear hW HFR HWR LA LB cA cB
         by_cases hd : FK < Um.ab (AA - BB)
         · have cg : decide (FK < Um.ab (AA - BB)) = true := decide_eq_true hd
           have HM : Hid (Um.farN x y (k + 1) = Um.ab (AA - BB)) := hid (by rw [HNX.out]; omega)
           clear hd HNX
           go_wp2
           exact ⟨⟨k + 1, by omega, by simp, by rw [HM.out], hG⟩, by simp [intOf]; omega⟩
         · have cg : decide (FK < Um.ab (AA - BB)) = false := decide_eq_false hd
           have HM : Hid (Um.farN x y (k + 1) = FK) := hid (by rw [HNX.out]; omega)
           clear hd HNX
           go_wp2
           exact ⟨⟨k + 1, by omega, by simp, by rw [HM.out], hG⟩, by simp [intOf]; omega⟩

     · obtain rfl : k = x.length := by omega
       have HFX := hid (HFN.out x.length (Nat.le_refl _))
       have HFX0 := hid (HF0.out x.length)
       clear HFN HF0 HSX HSY HXS HWS hkl hk
       generalize Um.farN x y x.length = FK at *
       go_wp2
       have HBW2 := hid (hBW.trans (hF.below.mono hBW.size))
       have hG0 := hG
       clear hG
       go_loopw [27] (fun i wq => ∃ k : Nat, k ≤ MU.1.length ∧ i = .int .i64 k ∧ Fr wc wq []) (fun i _ => MU.1.length - (intOf i).toNat)
       case atStart => exact ⟨0, Nat.zero_le _, rfl, hG0⟩
       case round =>
        clear hG0
        obtain ⟨k, hk, rfl, hG⟩ := hrel
        by_cases hkl : k < MU.1.length
        · have hkk : (k : Int) < (MU.1.length : Int) := by omega
          have hky : k < MV.1.length := by rw [← HLU.out]; exact hkl
          have hkk2 : (k : Int) < (MV.1.length : Int) := by omega
          have qx := HSU.out k hkl
          have qy := HSV.out k hky
          have qz := HPL.out k hkl
          have cA : wr.cell? ⟨bu, ou + k, none⟩ = some (.int .i64 (Um.nm MU.1 k)) := (hG.below.cell (p := ⟨bu, ou + k, none⟩) LUU.out).trans (HUS.out k hkl)
          have cB : wr.cell? ⟨bv, ov + k, none⟩ = some (.int .i64 (Um.nm MV.1 k)) := (hG.below.cell (p := ⟨bv, ov + k, none⟩) LVV.out).trans (HVS.out k hky)
          have LA := hid (Nat.lt_of_lt_of_le LUU.out hG.size)
          have LB := hid (Nat.lt_of_lt_of_le LVV.out hG.size)
          generalize Um.nm MU.1 k = AA at *
          generalize Um.nm MV.1 k = BB at *
          have HFR := fun w => hid (rFar0_b (AA - BB) w (by omega) (by omega))
          have HWR : Hid (IntKind.i64.wrap (AA - BB) = AA - BB) := hid (by rw [IntKind.wrap_i64]; omega)
          have sm1 := Um.ab_small qx qy
          have sm2 := Um.bound_small HBN.out.1 HBN.out.2 HFX0.out HFX.out
          have HW1 : Hid (IntKind.i64.wrap (Um.ab (AA - BB) * 1000) = Um.ab (AA - BB) * 1000) := hid (by rw [IntKind.wrap_i64]; omega)
          have HW2 : Hid (IntKind.i64.wrap (BN.1 * FK) = BN.1 * FK) := hid (by generalize BN.1 * FK = Q at *; rw [IntKind.wrap_i64]; omega)
          have HW3 : Hid (IntKind.i64.wrap (BN.1 * FK + 1000) = BN.1 * FK + 1000) := hid (by generalize BN.1 * FK = Q at *; rw [IntKind.wrap_i64]; omega)
          have HCG : Hid (decide (BN.1 * FK + 1000 < Um.ab (AA - BB) * 1000) = false) := hid (decide_eq_false (by generalize BN.1 * FK = Q at *; omega))
          clear qx qy qz sm1 sm2 HBN HLX HUS HVS HLU HSU HSV hky HPL HFX HFX0
          go_wp2
          obtain ⟨Inv, hInv⟩ : ∃ Inv : Array Bool → Act → World → Prop, ∀ listed aq W', Inv listed aq W' ↔ (∃ v158 v159 v160 v161 v162 v163 v164 v165 v166 v167 v28 : Value, aq = { tmps := #[Value.agg #[Value.slice a0 s.length cap0, Value.slice a1 p.length cap1], Value.slice a2 b.length cap2, Value.slice (some { block := bx, off := ox }) x.length cap3, Value.slice (some { block := bw, off := ow }) y.length cap4, Value.slice a5 q.length cap5, Value.pointer (some { block := w.heap.size, off := 0 }), undef, undef, undef, undef, u10, Value.pointer (some { block := BY, off := 0 }), Value.int IntKind.i64 500, Value.nilIface, Value.bool true, Value.nilIface, Value.int IntKind.i64 BN.fst, errV BN.snd, Value.bool true, errV MU.snd, Value.bool true, errV MV.snd, Value.slice (some { block := bu, off := ou }) MU.fst.length d6, Value.slice (some { block := bv, off := ov }) MV.fst.length d7, Value.int IntKind.i64 FK, Value.int IntKind.i64 ↑x.length, u26, Value.int IntKind.i64 ↑k, v28, u29, u30, u31, u32, u33, u34, u35, u36, u37, u38, u39, u40, u41, u42, u43, u44, u45, u46, u47, u48, u49, u50, u51, u52, u53, u54, u55, u56, u57, u58, u59, u60, u61, u62, u63, u64, u65, u66, u67, u68, u69, u70, u71, u72, u73, u74, u75, u76, u77, u78, u79, u80, u81, u82, u83, u84, u85, u86, u87, u88, u89, u90, u91, u92, u93, u94, u95, u96, Value.bool false, u98, u99, u100, u101, u102, u103, u104, u105, u106, u107, u108, u109, u110, u111, u112, u113, u114, u115, u116, u117, u118, u119, u120, u121, u122, u123, u124, u125, u126, u127, u128, u129, u130, Value.bool false, Value.int IntKind.i64 ↑x.length, Value.slice (some { block := bx, off := ox }) x.length cap3, Value.int IntKind.i64 ↑x.length, Value.bool false, u136, u137, u138, u139, u140, u141, u142, u143, u144, u145, u146, u147, u148, u149, u150, u151, Value.int IntKind.i64 ↑k, Value.slice (some { block := bu, off := ou }) MU.fst.length d6, Value.int IntKind.i64 ↑MU.fst.length, Value.bool true, u156, u157, v158, v159, v160, v161, v162, v163, v164, v165, v166, v167, u168, u169, u170, u171, u172, u173, u174], defers := [] } ∧ Below (wr).heap.size (wr) W' ∧ (listed.getD 0 false = true → v158 = Value.slice (some { block := bu, off := ou }) MU.fst.length d6) ∧ (listed.getD 1 false = true → v159 = Value.int IntKind.i64 ↑k) ∧ (listed.getD 2 false = true → v160 = Value.pointer (some ⟨bu, ou + k, none⟩)) ∧ (listed.getD 3 false = true → v161 = Value.int .i64 AA) ∧ (listed.getD 4 false = true → v162 = Value.slice (some { block := bv, off := ov }) MV.fst.length d7) ∧ (listed.getD 5 false = true → v163 = Value.int IntKind.i64 ↑k) ∧ (listed.getD 6 false = true → v164 = Value.pointer (some ⟨bv, ov + k, none⟩)) ∧ (listed.getD 7 false = true → v165 = Value.int .i64 BB) ∧ (listed.getD 8 false = true → v166 = Value.int .i64 (AA - BB)) ∧ (listed.getD 9 false = true → v167 = Value.int .i64 (Um.ab (AA - BB))) ∧ (listed.getD 10 false = true → v28 = Value.int .i64 (Um.ab (AA - BB)))) := ⟨_, fun _ _ _ => Iff.rfl⟩
          have HI := hid hInv
          clear hInv
          refine Free.region hmx (by kernel_rfl) Inv ?s1 ?s2 ?s3
          case s1 =>
            exact (HI.out _ _ _).2 ⟨u158, u159, u160, u161, u162, u163, u164, u165, u166, u167, u28, rfl, (Below.refl _ _).drew, Free.not_yet, Free.not_yet, Free.not_yet, Free.not_yet, Free.not_yet, Free.not_yet, Free.not_yet, Free.not_yet, Free.not_yet, Free.not_yet, Free.not_yet⟩
          case s2 =>
            intro i listed aq W1 hix hne hnl hsz hv
            obtain ⟨v158, v159, v160, v161, v162, v163, v164, v165, v166, v167, v28, rfl, hW, l0, l1, l2, l3, l4, l5, l6, l7, l8, l9, l10⟩ := (HI.out _ _ _).1 hv
            clear hv
            replace hix : i < 11 := hix
            replace hsz : listed.size = 11 := hsz
            rcases (by omega : i = 0 ∨ i = 1 ∨ i = 2 ∨ i = 3 ∨ i = 4 ∨ i = 5 ∨ i = 6 ∨ i = 7 ∨ i = 8 ∨ i = 9 ∨ i = 10) with rfl | rfl | rfl | rfl | rfl | rfl | rfl | rfl | rfl | rfl | rfl
            · refine Free.op rfl rfl (fun K hK => ?_)
              go_simp
              exact hK _ _ ((HI.out _ _ _).2 ⟨_, v159, v160, v161, v162, v163, v164, v165, v166, v167, v28, rfl, hW, fun _ => rfl, Free.of_set (by decide) l1, Free.of_set (by decide) l2, Free.of_set (by decide) l3, Free.of_set (by decide) l4, Free.of_set (by decide) l5, Free.of_set (by decide) l6, Free.of_set (by decide) l7, Free.of_set (by decide) l8, Free.of_set (by decide) l9, Free.of_set (by decide) l10⟩)
            · refine Free.op rfl rfl (fun K hK => ?_)
              go_simp
              exact hK _ _ ((HI.out _ _ _).2 ⟨v158, _, v160, v161, v162, v163, v164, v165, v166, v167, v28, rfl, hW, Free.of_set (by decide) l0, fun _ => rfl, Free.of_set (by decide) l2, Free.of_set (by decide) l3, Free.of_set (by decide) l4, Free.of_set (by decide) l5, Free.of_set (by decide) l6, Free.of_set (by decide) l7, Free.of_set (by decide) l8, Free.of_set (by decide) l9, Free.of_set (by decide) l10⟩)
            · refine Free.op rfl rfl (fun K hK => ?_)
              obtain rfl := l0 (hne 0 (by kernel_rfl))
              obtain rfl := l1 (hne 1 (by kernel_rfl))
              go_simp
              exact hK _ _ ((HI.out _ _ _).2 ⟨_, _, _, v161, v162, v163, v164, v165, v166, v167, v28, rfl, hW, fun _ => rfl, fun _ => rfl, fun _ => rfl, Free.of_set (by decide) l3, Free.of_set (by decide) l4, Free.of_set (by decide) l5, Free.of_set (by decide) l6, Free.of_set (by decide) l7, Free.of_set (by decide) l8, Free.of_set (by decide) l9, Free.of_set (by decide) l10⟩)
            · have z1 := (hW.cell (p := ⟨bu, ou + k, none⟩) LA.out).trans cA
              refine Free.op rfl rfl (fun K hK => ?_)
              obtain rfl := l2 (hne 2 (by kernel_rfl))
              go_simp
              exact hK _ _ ((HI.out _ _ _).2 ⟨v158, v159, _, _, v162, v163, v164, v165, v166, v167, v28, rfl, hW, Free.of_set (by decide) l0, Free.of_set (by decide) l1, fun _ => rfl, fun _ => rfl, Free.of_set (by decide) l4, Free.of_set (by decide) l5, Free.of_set (by decide) l6, Free.of_set (by decide) l7, Free.of_set (by decide) l8, Free.of_set (by decide) l9, Free.of_set (by decide) l10⟩)
            · refine Free.op rfl rfl (fun K hK => ?_)
              go_simp
              exact hK _ _ ((HI.out _ _ _).2 ⟨v158, v159, v160, v161, _, v163, v164, v165, v166, v167, v28, rfl, hW, Free.of_set (by decide) l0, Free.of_set (by decide) l1, Free.of_set (by decide) l2, Free.of_set (by decide) l3, fun _ => rfl, Free.of_set (by decide) l5, Free.of_set (by decide) l6, Free.of_set (by decide) l7, Free.of_set (by decide) l8, Free.of_set (by decide) l9, Free.of_set (by decide) l10⟩)
            · refine Free.op rfl rfl (fun K hK => ?_)
              go_simp
              exact hK _ _ ((HI.out _ _ _).2 ⟨v158, v159, v160, v161, v162, _, v164, v165, v166, v167, v28, rfl, hW, Free.of_set (by decide) l0, Free.of_set (by decide) l1, Free.of_set (by decide) l2, Free.of_set (by decide) l3, Free.of_set (by decide) l4, fun _ => rfl, Free.of_set (by decide) l6, Free.of_set (by decide) l7, Free.of_set (by decide) l8, Free.of_set (by decide) l9, Free.of_set (by decide) l10⟩)
            · refine Free.op rfl rfl (fun K hK => ?_)
              obtain rfl := l4 (hne 4 (by kernel_rfl))
              obtain rfl := l5 (hne 5 (by kernel_rfl))
              go_simp
              exact hK _ _ ((HI.out _ _ _).2 ⟨v158, v159, v160, v161, _, _, _, v165, v166, v167, v28, rfl, hW, Free.of_set (by decide) l0, Free.of_set (by decide) l1, Free.of_set (by decide) l2, Free.of_set (by decide) l3, fun _ => rfl, fun _ => rfl, fun _ => rfl, Free.of_set (by decide) l7, Free.of_set (by decide) l8, Free.of_set (by decide) l9, Free.of_set (by decide) l10⟩)
            · have z1 := (hW.cell (p := ⟨bv, ov + k, none⟩) LB.out).trans cB
              refine Free.op rfl rfl (fun K hK => ?_)
              obtain rfl := l6 (hne 6 (by kernel_rfl))
              go_simp
              exact hK _ _ ((HI.out _ _ _).2 ⟨v158, v159, v160, v161, v162, v163, _, _, v166, v167, v28, rfl, hW, Free.of_set (by decide) l0, Free.of_set (by decide) l1, Free.of_set (by decide) l2, Free.of_set (by decide) l3, Free.of_set (by decide) l4, Free.of_set (by decide) l5, fun _ => rfl, fun _ => rfl, Free.of_set (by decide) l8, Free.of_set (by decide) l9, Free.of_set (by decide) l10⟩)
            · have hw : IntKind.i64.wrap (AA - BB) = AA - BB := HWR.out
              refine Free.op rfl rfl (fun K hK => ?_)
              obtain rfl := l3 (hne 3 (by kernel_rfl))
              obtain rfl := l7 (hne 7 (by kernel_rfl))
              go_simp
              exact hK _ _ ((HI.out _ _ _).2 ⟨v158, v159, v160, _, v162, v163, v164, _, _, v167, v28, rfl, hW, Free.of_set (by decide) l0, Free.of_set (by decide) l1, Free.of_set (by decide) l2, fun _ => rfl, Free.of_set (by decide) l4, Free.of_set (by decide) l5, Free.of_set (by decide) l6, fun _ => rfl, fun _ => rfl, Free.of_set (by decide) l9, Free.of_set (by decide) l10⟩)
            · refine Free.op rfl rfl (fun K hK => ?_)
              obtain rfl := l8 (hne 8 (by kernel_rfl))
              go_wp2_with (go_at_call 10; refine (HFR _).out.mono ?_; rintro e W3 ⟨rfl, hb⟩)
              exact (HI.out _ _ _).2 ⟨v158, v159, v160, v161, v162, v163, v164, v165, _, _, v28, rfl, hW.trans (hb.mono hW.size), Free.of_set (by decide) l0, Free.of_set (by decide) l1, Free.of_set (by decide) l2, Free.of_set (by decide) l3, Free.of_set (by decide) l4, Free.of_set (by decide) l5, Free.of_set (by decide) l6, Free.of_set (by decide) l7, fun _ => rfl, fun _ => rfl, Free.of_set (by decide) l10⟩
            · refine Free.op rfl rfl (fun K hK => ?_)
              obtain rfl := l9 (hne 9 (by kernel_rfl))
              go_simp
              exact hK _ _ ((HI.out _ _ _).2 ⟨v158, v159, v160, v161, v162, v163, v164, v165, v166, _, _, rfl, hW, Free.of_set (by decide) l0, Free.of_set (by decide) l1, Free.of_set (by decide) l2, Free.of_set (by decide) l3, Free.of_set (by decide) l4, Free.of_set (by decide) l5, Free.of_set (by decide) l6, Free.of_set (by decide) l7, Free.of_set (by decide) l8, fun _ => rfl, fun _ => rfl⟩)
          case s3 =>
            intro listed aq W1 hall hsz hv
            obtain ⟨v158, v159, v160, v161, v162, v163, v164, v165, v166, v167, v28, rfl, hW, l0, l1, l2, l3, l4, l5, l6, l7, l8, l9, l10⟩ := (HI.out _ _ _).1 hv
            clear hv HI
            obtain rfl := l0 (Free.listed_of hall hsz 0 (by decide))
            obtain rfl := l1 (Free.listed_of hall hsz 1 (by decide))
            obtain rfl := l2 (Free.listed_of hall hsz 2 (by decide))
            obtain rfl := l3 (Free.listed_of hall hsz 3 (by decide))
            obtain rfl := l4 (Free.listed_of hall hsz 4 (by decide))
            obtain rfl := l5 (Free.listed_of hall hsz 5 (by decide))
            obtain rfl := l6 (Free.listed_of hall hsz 6 (by decide))
            obtain rfl := l7 (Free.listed_of hall hsz 7 (by decide))
            obtain rfl := l8 (Free.listed_of hall hsz 8 (by decide))
            obtain rfl := l9 (Free.listed_of hall hsz 9 (by decide))
            obtain rfl := l10 (Free.listed_of hall hsz 10 (by decide))
            clear hall hsz
            replace hG := hG.step hW
            clear hW HFR HWR LA LB cA cB
            have hw1 := HW1.out
            have hw2 := HW2.out
            have hw3 := HW3.out
            have cg := HCG.out
            go_wp2
            exact ⟨⟨k + 1, by omega, by simp, hG⟩, by simp [intOf]; omega⟩

        · clear HBN HLX HUS HVS HLU HSU HSV HPL HFX HFX0
          go_wp2
          go_returns
          exact ⟨rfl, HBW2.out.trans (hG.below.mono HBW2.out.size)⟩

theorem walk (s : List (List Um.Tm)) (v0 : Value) (p : List (Int × Int)) (v1 : Value) (b : List (Int × Int)) (v : Value) (x : List Int) (u : Value) (y : List Int) (t : Value) (q : List Int) (r : Value) (w : World) (hf : Lf w.heap.size w v0 s) (hp : Ls w.heap.size w v1 p) (hs : Ls w.heap.size w v b) (hx : Li w.heap.size w u x) (hy : Li w.heap.size w t y) (hq : Li w.heap.size w r q) :
    Calls Try.prog 3 #[.agg #[v0, v1], v, u, t, r] w fun e w' => e = .returned (.bool true) ∧ Below w.heap.size w w' := by
  by_cases hn : (Um.bndAll s p b).2 = 0
  · by_cases h : Um.hasF b x = 0 ∧ Um.hasF b y = 0 ∧ hasA b x = true ∧ hasA b y = true
    · by_cases h2 : (Um.movAll s p x q).2 = 0 ∧ (Um.movAll s p y q).2 = 0
      · exact walk_main s v0 p v1 b v x u y t q r w hf hp hs hx hy hq hn h.1 h.2.1 h.2.2.1 h.2.2.2 h2.1 h2.2
      · exact walk_point s v0 p v1 b v x u y t q r w hf hp hs hx hy hq hn h.1 h.2.1 h.2.2.1 h.2.2.2 h2
    · exact walk_has s v0 p v1 b v x u y t q r w hf hp hs hx hy hq hn h
  · exact walk_bound s v0 p v1 b v x u y t q r w hf hp hs hx hy hq hn
end Go.Proofs.Ytmkdjaafkigemaa.NrPulls
