/-
  The walk over 'spantop.TopPull': for all s, b, x, y, push it returns true.
-/
import Derived.Test.YtmkdjaafkigemaaNear
import Derived.Test.YtmkdjaafkigemaaHold
import Derived.Test.YtmkdjaafkigemaaFlow
import Derived.Test.YtmkdjaafkigemaaBoxH
import Derived.Test.YtmkdjaafkigemaaTopOne
import Derived.Test.YtmkdjaafkigemaaMaths4
import Derived.Test.YtmkdjaafkigemaaMems2
import Derived.LoopTactic
import Derived.Deep.CutRange
namespace Go.Proofs.Ytmkdjaafkigemaa.TPull
set_option linter.unusedSimpArgs false
open Go.RowKit

/-- How far apart they were, a step ahead. -/
def wasF (P Q : List (List Int)) (n : Nat) : Nat → Int
  | 0 => 0
  | k + 1 => Um.farN (P[k]?.getD []) (Q[k]?.getD []) n
abbrev smallL (x : List Int) : Prop := ∀ j, j < x.length → -1000000000 ≤ Um.nm x j ∧ Um.nm x j ≤ 1000000000
theorem has_yes {b : List (Int × Int)} {x : List Int} (hb : Um.boxF b = 0) (hx : Um.hasP b x) (hl : x.length = b.length) : Um.hasF b x = 0 ∧ hasA b x = true := by
  have e : Um.hasF b x = 0 := by unfold Um.hasF; rw [if_pos hb, if_pos hl]
  refine ⟨e, ?_⟩
  unfold hasA
  rw [e]
  simp only [decide_true, Bool.true_and]
  exact decide_eq_true hx
theorem pull_whole {s : List (List Um.Tm)} {p b : List (Int × Int)} {x y : List Int} {u : List (List Int)} (h : (Um.pullAll s p b).1 = true) (h2 : (Um.pullAll s p b).2 = 0) (hp : (Um.pathAll s p x u).2 = 0) (hq : (Um.pathAll s p y u).2 = 0) (f1 : Um.hasF b x = 0) (f2 : Um.hasF b y = 0) (g1 : hasA b x = true) (g2 : hasA b y = true) :
    ((Um.pathAll s p x u).1.length = u.length + 1 ∧ (Um.pathAll s p y u).1.length = u.length + 1 ∧ u.length ≤ 20 ∧ 0 < b.length ∧ b.length ≤ 3 ∧ 0 ≤ (Um.bndAll s p b).1) ∧
    ∀ k, k < u.length + 1 → ((((Um.pathAll s p x u).1[k]?.getD []).length = b.length ∧ Um.hasF b ((Um.pathAll s p x u).1[k]?.getD []) = 0 ∧ hasA b ((Um.pathAll s p x u).1[k]?.getD []) = true ∧ smallL ((Um.pathAll s p x u).1[k]?.getD [])) ∧ (((Um.pathAll s p y u).1[k]?.getD []).length = b.length ∧ Um.hasF b ((Um.pathAll s p y u).1[k]?.getD []) = 0 ∧ hasA b ((Um.pathAll s p y u).1[k]?.getD []) = true ∧ smallL ((Um.pathAll s p y u).1[k]?.getD []))) ∧
      (0 ≤ wasF (Um.pathAll s p x u).1 (Um.pathAll s p y u).1 b.length (k + 1) ∧ wasF (Um.pathAll s p x u).1 (Um.pathAll s p y u).1 b.length (k + 1) ≤ 2000000000) ∧
      (0 ≤ wasF (Um.pathAll s p x u).1 (Um.pathAll s p y u).1 b.length k ∧ wasF (Um.pathAll s p x u).1 (Um.pathAll s p y u).1 b.length k ≤ 2000000000) ∧
      (0 < k → wasF (Um.pathAll s p x u).1 (Um.pathAll s p y u).1 b.length (k + 1) * 1000 ≤ (Um.bndAll s p b).1 * wasF (Um.pathAll s p x u).1 (Um.pathAll s p y u).1 b.length k + 1000) := by
  obtain ⟨pX, lX, bX⟩ := Um.has_whole f1 (Bool.and_eq_true_iff.1 g1).2
  obtain ⟨pY, lY, -⟩ := Um.has_whole f2 (Bool.and_eq_true_iff.1 g2).2
  obtain ⟨a0, a1, a2⟩ := Um.pathAll_good hp
  obtain ⟨-, c1, c2⟩ := Um.pathAll_good hq
  obtain ⟨l20, -, -⟩ := Um.pathF_ok.1 a0
  obtain ⟨e1, -, -, -, -⟩ := Um.pull_parts h h2
  obtain ⟨-, eb, hb⟩ := Um.bndAll_good e1
  have b0 := (Um.bndN_ok hb).1
  rw [← eb] at b0
  have bl := Um.box_len bX
  rw [a2, c2]
  have ge1 : ∀ k, k < u.length + 1 → (Um.paths s p x u (u.length + 1))[k]?.getD [] = (Um.pathN s p x u k).1 := fun k hk => Um.paths_get hk
  have ge2 : ∀ k, k < u.length + 1 → (Um.paths s p y u (u.length + 1))[k]?.getD [] = (Um.pathN s p y u k).1 := fun k hk => Um.paths_get hk
  have pts := fun k (hk : k < u.length + 1) => Um.pull_path h h2 pX pY lX lY a1 c1 k (by omega)
  have was : ∀ k, k < u.length + 1 → 0 ≤ wasF (Um.paths s p x u (u.length + 1)) (Um.paths s p y u (u.length + 1)) b.length (k + 1) ∧ wasF (Um.paths s p x u (u.length + 1)) (Um.paths s p y u (u.length + 1)) b.length (k + 1) ≤ 2000000000 := by
    intro k hk
    show 0 ≤ Um.farN ((Um.paths s p x u (u.length + 1))[k]?.getD []) ((Um.paths s p y u (u.length + 1))[k]?.getD []) b.length ∧ Um.farN ((Um.paths s p x u (u.length + 1))[k]?.getD []) ((Um.paths s p y u (u.length + 1))[k]?.getD []) b.length ≤ 2000000000
    rw [ge1 k hk, ge2 k hk]
    obtain ⟨q1, q2⟩ := pts k hk
    exact ⟨(Um.farN_has _ _ _).1, Um.farN_small (fun j hj => Um.has_small bX q1.1 q1.2 j (by omega)) (fun j hj => Um.has_small bX q2.1 q2.2 j (by omega))⟩
  refine ⟨⟨Um.paths_length _ _ _ _ _, Um.paths_length _ _ _ _ _, l20, bl.1, bl.2, b0⟩, fun k hk => ⟨?_, was k hk, ?_, ?_⟩⟩
  · show ((((Um.paths s p x u (u.length + 1))[k]?.getD []).length = b.length ∧ Um.hasF b ((Um.paths s p x u (u.length + 1))[k]?.getD []) = 0 ∧ hasA b ((Um.paths s p x u (u.length + 1))[k]?.getD []) = true ∧ smallL ((Um.paths s p x u (u.length + 1))[k]?.getD [])) ∧ (((Um.paths s p y u (u.length + 1))[k]?.getD []).length = b.length ∧ Um.hasF b ((Um.paths s p y u (u.length + 1))[k]?.getD []) = 0 ∧ hasA b ((Um.paths s p y u (u.length + 1))[k]?.getD []) = true ∧ smallL ((Um.paths s p y u (u.length + 1))[k]?.getD [])))
    rw [ge1 k hk, ge2 k hk]
    obtain ⟨q1, q2⟩ := pts k hk
    exact ⟨⟨q1.2, (has_yes bX q1.1 q1.2).1, (has_yes bX q1.1 q1.2).2, Um.has_small bX q1.1 q1.2⟩, q2.2, (has_yes bX q2.1 q2.2).1, (has_yes bX q2.1 q2.2).2, Um.has_small bX q2.1 q2.2⟩
  · cases k with
    | zero => exact ⟨Int.le_refl _, by show (0 : Int) ≤ 2000000000; decide⟩
    | succ k => exact was k (by omega)
  · intro h0
    obtain ⟨j, rfl⟩ : ∃ j, k = j + 1 := ⟨k - 1, by omega⟩
    show Um.farN ((Um.paths s p x u (u.length + 1))[j + 1]?.getD []) ((Um.paths s p y u (u.length + 1))[j + 1]?.getD []) b.length * 1000 ≤ (Um.bndAll s p b).1 * Um.farN ((Um.paths s p x u (u.length + 1))[j]?.getD []) ((Um.paths s p y u (u.length + 1))[j]?.getD []) b.length + 1000
    rw [ge1 (j + 1) hk, ge2 (j + 1) hk, ge1 j (by omega), ge2 j (by omega)]
    exact Um.pull_next_far h h2 pX pY lX lY a1 c1 (by omega)
theorem rFar0_b (n : Int) (w : World) (h1 : -4000000000000000000 ≤ n) (h2 : n ≤ 4000000000000000000) :
    Calls Try.prog 10 #[.int .i64 n] w fun e w' => e = .returned (.int .i64 (Um.ab n)) ∧ Below w.heap.size w w' := by
  unfold Um.ab
  by_cases h : n < 0
  · rw [if_pos h]
    have k : decide (n < 0) = true := decide_eq_true h
    go_enter Try.func10, Try.ntmps10
    go_wp2
    go_returns
    exact ⟨rfl, Below.refl _ _⟩
  · rw [if_neg h]
    have k : decide (n < 0) = false := decide_eq_false h
    go_enter Try.func10, Try.ntmps10
    go_wp2
    go_returns
    exact ⟨rfl, Below.refl _ _⟩

set_option maxRecDepth 100000 in
set_option maxHeartbeats 32000000 in
theorem walk_pull (s : List (List Um.Tm)) (v0 : Value) (p : List (Int × Int)) (v1 : Value) (b : List (Int × Int)) (v : Value) (x : List Int) (t : Value) (y : List Int) (z : Value) (u : List (List Int)) (r : Value) (w : World) (hf : Lf w.heap.size w v0 s) (hp : Ls w.heap.size w v1 p) (hs : Ls w.heap.size w v b) (hx : Li w.heap.size w t x) (hy : Li w.heap.size w z y) (hu : Ll w.heap.size w r u) (h : ¬ ((Um.pullAll s p b).1 = true ∧ (Um.pullAll s p b).2 = 0)) :
    Calls Try.prog 5 #[.agg #[v0, v1], v, t, z, r] w fun e w' => e = .returned (.bool true) ∧ Below w.heap.size w w' := by
  have v0 := errV_none
  have q1 := errG
  have q2 := errGn
  have q3 := errE
  have q4 := errN
  obtain ⟨a0, cap0, rfl, -⟩ := (id hf)
  obtain ⟨a1, cap1, rfl, -⟩ := (id hp)
  obtain ⟨a2, cap2, rfl, -⟩ := (id hs)
  obtain ⟨a3, cap3, rfl, -⟩ := (id hx)
  obtain ⟨a4, cap4, rfl, -⟩ := (id hy)
  obtain ⟨a5, cap5, rfl, -⟩ := (id hu)
  have h1 : w.heap.size < (w.alloc (.cells #[.slice a0 s.length cap0, .slice a1 p.length cap1] 25)).heap.size := by simp
  have hBW : Below w.heap.size w (w.alloc (.cells #[.slice a0 s.length cap0, .slice a1 p.length cap1] 25)) := by go_grown
  obtain ⟨c0, c1⟩ := sys_cells w (.slice a0 s.length cap0) (.slice a1 p.length cap1) 25
  have hF := Fr.start (w.alloc (.cells #[.slice a0 s.length cap0, .slice a1 p.length cap1] 25))
  have hf2 := hf.step hBW
  have hp2 := hp.step hBW
  have hb2 := hs.step hBW
  have hx2 := (hx.keep hBW).wide hBW.size
  have hy2 := (hy.keep hBW).wide hBW.size
  have hu2 := hu.step hBW
  have HPU := fun w h1 h2 h3 => hid (nrPull_any s (.slice a0 s.length cap0) p (.slice a1 p.length cap1) b (.slice a2 b.length cap2) w h1 h2 h3)
  clear hf hp hs hx hy hu
  have y0 := c0
  have y1 := c1
  clear hx2 hy2 hu2
  generalize Um.pullAll s p b = PL at *
  replace h := hid h
  go_enter Try.func5, Try.ntmps5
  go_upto_region 4 with (go_at_call 14; refine (hid (one_any _)).out.mono ?_; rintro e wn ⟨rfl, hb⟩; replace hF := hF.step hb; clear hb; clear y0 y1; have y0 := (hF.below.cell (p := ⟨w.heap.size, 0, none⟩) h1).trans c0; have y1 := (hF.below.cell (p := ⟨w.heap.size, 1, none⟩) h1).trans c1)
  go_upto_region 5 with (go_at_call 7; refine (HPU _ (hF.lf hf2) (hF.ls hp2) (hF.ls hb2)).out.mono ?_; rintro e wn ⟨rfl, hb⟩; replace hF := hF.step hb; clear hb; clear y0 y1; have y0 := (hF.below.cell (p := ⟨w.heap.size, 0, none⟩) h1).trans c0; have y1 := (hF.below.cell (p := ⟨w.heap.size, 1, none⟩) h1).trans c1; clear HPU)
  obtain ⟨PB, PE⟩ := PL
  by_cases f1 : PE = 0
  case neg =>
   have k1 : (PE != 0) = true := by simpa using f1
   clear h f1
   go_wp2
   go_returns
   exact ⟨rfl, hBW.trans (hF.below.mono hBW.size)⟩
  have k1 : (PE != 0) = false := by simpa using f1
  cases PB
  case false =>
   clear h f1
   go_wp2
   go_returns
   exact ⟨rfl, hBW.trans (hF.below.mono hBW.size)⟩
  exact absurd ⟨rfl, f1⟩ h.out

set_option maxRecDepth 100000 in
set_option maxHeartbeats 32000000 in
theorem walk_has (s : List (List Um.Tm)) (v0 : Value) (p : List (Int × Int)) (v1 : Value) (b : List (Int × Int)) (v : Value) (x : List Int) (t : Value) (y : List Int) (z : Value) (u : List (List Int)) (r : Value) (w : World) (hf : Lf w.heap.size w v0 s) (hp : Ls w.heap.size w v1 p) (hs : Ls w.heap.size w v b) (hx : Li w.heap.size w t x) (hy : Li w.heap.size w z y) (hu : Ll w.heap.size w r u) (hl : (Um.pullAll s p b).1 = true) (hm : (Um.pullAll s p b).2 = 0) (h : ¬ ((Um.pathAll s p x u).2 = 0 ∧ (Um.pathAll s p y u).2 = 0 ∧ Um.hasF b x = 0 ∧ Um.hasF b y = 0 ∧ hasA b x = true ∧ hasA b y = true)) :
    Calls Try.prog 5 #[.agg #[v0, v1], v, t, z, r] w fun e w' => e = .returned (.bool true) ∧ Below w.heap.size w w' := by
  have v0 := errV_none
  have q1 := errG
  have q2 := errGn
  have q3 := errE
  have q4 := errN
  obtain ⟨a0, cap0, rfl, -⟩ := (id hf)
  obtain ⟨a1, cap1, rfl, -⟩ := (id hp)
  obtain ⟨a2, cap2, rfl, -⟩ := (id hs)
  obtain ⟨a3, cap3, rfl, -⟩ := (id hx)
  obtain ⟨a4, cap4, rfl, -⟩ := (id hy)
  obtain ⟨a5, cap5, rfl, -⟩ := (id hu)
  have h1 : w.heap.size < (w.alloc (.cells #[.slice a0 s.length cap0, .slice a1 p.length cap1] 25)).heap.size := by simp
  have hBW : Below w.heap.size w (w.alloc (.cells #[.slice a0 s.length cap0, .slice a1 p.length cap1] 25)) := by go_grown
  obtain ⟨c0, c1⟩ := sys_cells w (.slice a0 s.length cap0) (.slice a1 p.length cap1) 25
  have hF := Fr.start (w.alloc (.cells #[.slice a0 s.length cap0, .slice a1 p.length cap1] 25))
  have hf2 := hf.step hBW
  have hp2 := hp.step hBW
  have hb2 := hs.step hBW
  have hx2 := (hx.keep hBW).wide hBW.size
  have hy2 := (hy.keep hBW).wide hBW.size
  have hu2 := hu.step hBW
  have HPU := fun w h1 h2 h3 => hid (nrPull_any s (.slice a0 s.length cap0) p (.slice a1 p.length cap1) b (.slice a2 b.length cap2) w h1 h2 h3)
  clear hf hp hs hx hy hu
  have y0 := c0
  have y1 := c1
  have HBD := fun w h1 h2 h3 => hid (nrBound_any s (.slice a0 s.length cap0) p (.slice a1 p.length cap1) b (.slice a2 b.length cap2) w h1 h2 h3)
  have HIS := fun w h1 h2 h3 => hid (hlIs_any s (.slice a0 s.length cap0) p (.slice a1 p.length cap1) b (.slice a2 b.length cap2) w h1 h2 h3)
  have HPX := fun w h1 h2 h3 h4 => hid (flPath_any s (.slice a0 s.length cap0) p (.slice a1 p.length cap1) x (.slice a3 x.length cap3) u (.slice a5 u.length cap5) w h1 h2 h3 h4)
  have HPY := fun w h1 h2 h3 h4 => hid (flPath_any s (.slice a0 s.length cap0) p (.slice a1 p.length cap1) y (.slice a4 y.length cap4) u (.slice a5 u.length cap5) w h1 h2 h3 h4)
  have HHX := fun w h1 h2 => hid (bhas_any b (.slice a2 b.length cap2) x (.slice a3 x.length cap3) w h1 h2)
  have HHY := fun w h1 h2 => hid (bhas_any b (.slice a2 b.length cap2) y (.slice a4 y.length cap4) w h1 h2)
  obtain ⟨q5, q6, q7, q8, -⟩ := Um.pull_parts hl hm
  have k1 : ((Um.pullAll s p b).2 != 0) = false := by simpa using hm
  have k2 : ((Um.bndAll s p b).2 != 0) = false := by simpa using q5
  have k3 : ((Um.ofAll s p b).2 != 0) = false := by simpa using q6
  have k4 : decide (1000 ≤ (Um.bndAll s p b).1) = false := decide_eq_false (by omega)
  have GL := hid hl
  have GI := hid q8
  clear hl hm q5 q6 q7 q8
  generalize Um.pullAll s p b = PL at *
  generalize Um.bndAll s p b = BN at *
  generalize Um.ofAll s p b = OA at *
  generalize Um.isB s p b = IB at *
  generalize Um.pathAll s p x u = PX at *
  generalize Um.pathAll s p y u = PY at *
  generalize Um.hasF b x = F1 at *
  generalize Um.hasF b y = F2 at *
  generalize hasA b x = A1 at *
  generalize hasA b y = A2 at *
  obtain ⟨PB, PE⟩ := PL
  obtain rfl : true = PB := GL.out.symm
  obtain rfl : true = IB := GI.out.symm
  clear GL GI
  simp only at k1
  replace h := hid h
  go_enter Try.func5, Try.ntmps5
  go_upto_region 4 with (go_at_call 14; refine (hid (one_any _)).out.mono ?_; rintro e wn ⟨rfl, hb⟩; replace hF := hF.step hb; clear hb; clear y0 y1; have y0 := (hF.below.cell (p := ⟨w.heap.size, 0, none⟩) h1).trans c0; have y1 := (hF.below.cell (p := ⟨w.heap.size, 1, none⟩) h1).trans c1)
  go_upto_region 5 with (go_at_call 7; refine (HPU _ (hF.lf hf2) (hF.ls hp2) (hF.ls hb2)).out.mono ?_; rintro e wn ⟨rfl, hb⟩; replace hF := hF.step hb; clear hb; clear y0 y1; have y0 := (hF.below.cell (p := ⟨w.heap.size, 0, none⟩) h1).trans c0; have y1 := (hF.below.cell (p := ⟨w.heap.size, 1, none⟩) h1).trans c1; clear HPU)
  go_upto_region 9 with (first | (go_at_call 6; refine (HBD _ (hF.lf hf2) (hF.ls hp2) (hF.ls hb2)).out.mono ?_; rintro e wn ⟨rfl, hb⟩; replace hF := hF.step hb; clear hb; clear y0 y1; have y0 := (hF.below.cell (p := ⟨w.heap.size, 0, none⟩) h1).trans c0; have y1 := (hF.below.cell (p := ⟨w.heap.size, 1, none⟩) h1).trans c1; clear HBD) | (go_at_call 15; refine (HIS _ (hF.lf hf2) (hF.ls hp2) (hF.ls hb2)).out.mono ?_; rintro e wn ⟨rfl, hb⟩; replace hF := hF.step hb; clear hb; clear y0 y1; have y0 := (hF.below.cell (p := ⟨w.heap.size, 0, none⟩) h1).trans c0; have y1 := (hF.below.cell (p := ⟨w.heap.size, 1, none⟩) h1).trans c1; clear HIS))
  go_cut [73] from 33 to 73 (fun v wr => v = .bool false ∧ wr = wn)
  case first =>
    clear HPX HPY HHX HHY
    go_wp2
    go_meet
    case rel => exact ⟨rfl, rfl⟩
  case rest =>
   obtain ⟨rfl, rfl⟩ := hcut
   go_upto_region 15 with (first | (go_at_call 16; refine (HPX _ (hF.lf hf2) (hF.ls hp2) (hF.li hx2) (hF.ll hu2)).out.mono ?_; rintro e wn ⟨r1, rfl, hpx, hb⟩; replace hF := hF.step hb; clear hb; clear y0 y1; have y0 := (hF.below.cell (p := ⟨w.heap.size, 0, none⟩) h1).trans c0; have y1 := (hF.below.cell (p := ⟨w.heap.size, 1, none⟩) h1).trans c1; obtain ⟨s1, d1, rfl, -⟩ := (id hpx); clear HPX) | (go_at_call 16; refine (HPY _ (hF.lf hf2) (hF.ls hp2) (hF.li hy2) (hF.ll hu2)).out.mono ?_; rintro e wn ⟨r2, rfl, hpy, hb⟩; replace hpx := hpx.step hb; replace hF := hF.step hb; clear hb; clear y0 y1; have y0 := (hF.below.cell (p := ⟨w.heap.size, 0, none⟩) h1).trans c0; have y1 := (hF.below.cell (p := ⟨w.heap.size, 1, none⟩) h1).trans c1; obtain ⟨s2, d2, rfl, -⟩ := (id hpy); clear HPY) | (go_at_call 8; refine (HHX _ (hF.ls hb2) (hF.li hx2)).out.mono ?_; rintro e wn ⟨rfl, hb⟩; replace hpx := hpx.step hb; replace hpy := hpy.step hb; replace hF := hF.step hb; clear hb; clear y0 y1; have y0 := (hF.below.cell (p := ⟨w.heap.size, 0, none⟩) h1).trans c0; have y1 := (hF.below.cell (p := ⟨w.heap.size, 1, none⟩) h1).trans c1; clear HHX) | (go_at_call 8; refine (HHY _ (hF.ls hb2) (hF.li hy2)).out.mono ?_; rintro e wn ⟨rfl, hb⟩; replace hpx := hpx.step hb; replace hpy := hpy.step hb; replace hF := hF.step hb; clear hb; clear y0 y1; have y0 := (hF.below.cell (p := ⟨w.heap.size, 0, none⟩) h1).trans c0; have y1 := (hF.below.cell (p := ⟨w.heap.size, 1, none⟩) h1).trans c1; clear HHY))
   by_cases m1 : PX.2 = 0
   case neg =>
    have k5 : (PX.2 != 0) = true := by simpa using m1
    clear h m1
    go_wp2
    go_returns
    exact ⟨rfl, hBW.trans (hF.below.mono hBW.size)⟩
   have k5 : (PX.2 != 0) = false := by simpa using m1
   by_cases m2 : PY.2 = 0
   case neg =>
    have k6 : (PY.2 != 0) = true := by simpa using m2
    clear h m2
    go_wp2
    go_returns
    exact ⟨rfl, hBW.trans (hF.below.mono hBW.size)⟩
   have k6 : (PY.2 != 0) = false := by simpa using m2
   by_cases m3 : F1 = 0
   case neg =>
    have k7 : (F1 != 0) = true := by simpa using m3
    clear h m3
    go_wp2
    go_returns
    exact ⟨rfl, hBW.trans (hF.below.mono hBW.size)⟩
   have k7 : (F1 != 0) = false := by simpa using m3
   by_cases m4 : F2 = 0
   case neg =>
    have k8 : (F2 != 0) = true := by simpa using m4
    clear h m4
    go_wp2
    go_returns
    exact ⟨rfl, hBW.trans (hF.below.mono hBW.size)⟩
   have k8 : (F2 != 0) = false := by simpa using m4
   cases A1
   case false =>
    clear h
    go_wp2
    go_returns
    exact ⟨rfl, hBW.trans (hF.below.mono hBW.size)⟩
   cases A2
   case false =>
    clear h
    go_wp2
    go_returns
    exact ⟨rfl, hBW.trans (hF.below.mono hBW.size)⟩
   exact absurd ⟨m1, m2, m3, m4, rfl, rfl⟩ h.out

set_option maxRecDepth 100000 in
set_option maxHeartbeats 32000000 in
theorem walk_main (s : List (List Um.Tm)) (v0 : Value) (p : List (Int × Int)) (v1 : Value) (b : List (Int × Int)) (v : Value) (x : List Int) (t : Value) (y : List Int) (z : Value) (u : List (List Int)) (r : Value) (w : World) (hf : Lf w.heap.size w v0 s) (hp : Ls w.heap.size w v1 p) (hs : Ls w.heap.size w v b) (hx : Li w.heap.size w t x) (hy : Li w.heap.size w z y) (hu : Ll w.heap.size w r u) (hl : (Um.pullAll s p b).1 = true) (hm : (Um.pullAll s p b).2 = 0) (m1 : (Um.pathAll s p x u).2 = 0) (m2 : (Um.pathAll s p y u).2 = 0) (m3 : Um.hasF b x = 0) (m4 : Um.hasF b y = 0) (m5 : hasA b x = true) (m6 : hasA b y = true) :
    Calls Try.prog 5 #[.agg #[v0, v1], v, t, z, r] w fun e w' => e = .returned (.bool true) ∧ Below w.heap.size w w' := by
  have v0 := errV_none
  have q1 := errG
  have q2 := errGn
  have q3 := errE
  have q4 := errN
  obtain ⟨a0, cap0, rfl, -⟩ := (id hf)
  obtain ⟨a1, cap1, rfl, -⟩ := (id hp)
  obtain ⟨a2, cap2, rfl, -⟩ := (id hs)
  obtain ⟨a3, cap3, rfl, -⟩ := (id hx)
  obtain ⟨a4, cap4, rfl, -⟩ := (id hy)
  obtain ⟨a5, cap5, rfl, -⟩ := (id hu)
  have h1 : w.heap.size < (w.alloc (.cells #[.slice a0 s.length cap0, .slice a1 p.length cap1] 25)).heap.size := by simp
  have hBW : Below w.heap.size w (w.alloc (.cells #[.slice a0 s.length cap0, .slice a1 p.length cap1] 25)) := by go_grown
  obtain ⟨c0, c1⟩ := sys_cells w (.slice a0 s.length cap0) (.slice a1 p.length cap1) 25
  have hF := Fr.start (w.alloc (.cells #[.slice a0 s.length cap0, .slice a1 p.length cap1] 25))
  have hf2 := hf.step hBW
  have hp2 := hp.step hBW
  have hb2 := hs.step hBW
  have hx2 := (hx.keep hBW).wide hBW.size
  have hy2 := (hy.keep hBW).wide hBW.size
  have hu2 := hu.step hBW
  have HPU := fun w h1 h2 h3 => hid (nrPull_any s (.slice a0 s.length cap0) p (.slice a1 p.length cap1) b (.slice a2 b.length cap2) w h1 h2 h3)
  clear hf hp hs hx hy hu
  have y0 := c0
  have y1 := c1
  have HBD := fun w h1 h2 h3 => hid (nrBound_any s (.slice a0 s.length cap0) p (.slice a1 p.length cap1) b (.slice a2 b.length cap2) w h1 h2 h3)
  have HIS := fun w h1 h2 h3 => hid (hlIs_any s (.slice a0 s.length cap0) p (.slice a1 p.length cap1) b (.slice a2 b.length cap2) w h1 h2 h3)
  have HPX := fun w h1 h2 h3 h4 => hid (flPath_any s (.slice a0 s.length cap0) p (.slice a1 p.length cap1) x (.slice a3 x.length cap3) u (.slice a5 u.length cap5) w h1 h2 h3 h4)
  have HPY := fun w h1 h2 h3 h4 => hid (flPath_any s (.slice a0 s.length cap0) p (.slice a1 p.length cap1) y (.slice a4 y.length cap4) u (.slice a5 u.length cap5) w h1 h2 h3 h4)
  have HHX := fun w h1 h2 => hid (bhas_any b (.slice a2 b.length cap2) x (.slice a3 x.length cap3) w h1 h2)
  have HHY := fun w h1 h2 => hid (bhas_any b (.slice a2 b.length cap2) y (.slice a4 y.length cap4) w h1 h2)
  obtain ⟨q5, q6, q7, q8, -⟩ := Um.pull_parts hl hm
  have k1 : ((Um.pullAll s p b).2 != 0) = false := by simpa using hm
  have k2 : ((Um.bndAll s p b).2 != 0) = false := by simpa using q5
  have k3 : ((Um.ofAll s p b).2 != 0) = false := by simpa using q6
  have k4 : decide (1000 ≤ (Um.bndAll s p b).1) = false := decide_eq_false (by omega)
  have GL := hid hl
  have GI := hid q8
  have k5 : ((Um.pathAll s p x u).2 != 0) = false := by simpa using m1
  have k6 : ((Um.pathAll s p y u).2 != 0) = false := by simpa using m2
  have k7 : (Um.hasF b x != 0) = false := by simpa using m3
  have k8 : (Um.hasF b y != 0) = false := by simpa using m4
  obtain ⟨⟨j1, j2, j3, j4, j5, j6⟩, jk⟩ := pull_whole hl hm m1 m2 m3 m4 m5 m6
  have HBN := hid (show 0 ≤ (Um.bndAll s p b).1 ∧ (Um.bndAll s p b).1 ≤ 1000000000 from ⟨j6, by omega⟩)
  have HJ1 := hid j1
  have HJ2 := hid j2
  have HJK := hid jk
  have G5 := hid m5
  have G6 := hid m6
  have hmx : Try.prog.follows .mixedOrders = true := by kernel_rfl
  clear hl hm q5 q6 q7 q8 m1 m2 m3 m4 m5 m6 j1 j2 j6 jk
  generalize Um.pullAll s p b = PL at *
  generalize Um.bndAll s p b = BN at *
  generalize Um.ofAll s p b = OA at *
  generalize Um.isB s p b = IB at *
  generalize Um.pathAll s p x u = PX at *
  generalize Um.pathAll s p y u = PY at *
  generalize Um.hasF b x = F1 at *
  generalize Um.hasF b y = F2 at *
  generalize hasA b x = A1 at *
  generalize hasA b y = A2 at *
  obtain ⟨PB, PE⟩ := PL
  obtain rfl : true = PB := GL.out.symm
  obtain rfl : true = IB := GI.out.symm
  clear GL GI
  simp only at k1
  obtain rfl : true = A1 := G5.out.symm
  obtain rfl : true = A2 := G6.out.symm
  clear G5 G6
  go_enter Try.func5, Try.ntmps5
  go_upto_region 4 with (go_at_call 14; refine (hid (one_any _)).out.mono ?_; rintro e wn ⟨rfl, hb⟩; replace hF := hF.step hb; clear hb; clear y0 y1; have y0 := (hF.below.cell (p := ⟨w.heap.size, 0, none⟩) h1).trans c0; have y1 := (hF.below.cell (p := ⟨w.heap.size, 1, none⟩) h1).trans c1)
  go_upto_region 5 with (go_at_call 7; refine (HPU _ (hF.lf hf2) (hF.ls hp2) (hF.ls hb2)).out.mono ?_; rintro e wn ⟨rfl, hb⟩; replace hF := hF.step hb; clear hb; clear y0 y1; have y0 := (hF.below.cell (p := ⟨w.heap.size, 0, none⟩) h1).trans c0; have y1 := (hF.below.cell (p := ⟨w.heap.size, 1, none⟩) h1).trans c1; clear HPU)
  go_upto_region 9 with (first | (go_at_call 6; refine (HBD _ (hF.lf hf2) (hF.ls hp2) (hF.ls hb2)).out.mono ?_; rintro e wn ⟨rfl, hb⟩; replace hF := hF.step hb; clear hb; clear y0 y1; have y0 := (hF.below.cell (p := ⟨w.heap.size, 0, none⟩) h1).trans c0; have y1 := (hF.below.cell (p := ⟨w.heap.size, 1, none⟩) h1).trans c1; clear HBD) | (go_at_call 15; refine (HIS _ (hF.lf hf2) (hF.ls hp2) (hF.ls hb2)).out.mono ?_; rintro e wn ⟨rfl, hb⟩; replace hF := hF.step hb; clear hb; clear y0 y1; have y0 := (hF.below.cell (p := ⟨w.heap.size, 0, none⟩) h1).trans c0; have y1 := (hF.below.cell (p := ⟨w.heap.size, 1, none⟩) h1).trans c1; clear HIS))
  go_cut [73] from 33 to 73 (fun v wr => v = .bool false ∧ wr = wn)
  case first =>
    clear HPX HPY HHX HHY
    go_wp2
    go_meet
    case rel => exact ⟨rfl, rfl⟩
  case rest =>
   obtain ⟨rfl, rfl⟩ := hcut
   go_upto_region 15 with (first | (go_at_call 16; refine (HPX _ (hF.lf hf2) (hF.ls hp2) (hF.li hx2) (hF.ll hu2)).out.mono ?_; rintro e wn ⟨r1, rfl, hpx, hb⟩; replace hF := hF.step hb; clear hb; clear y0 y1; have y0 := (hF.below.cell (p := ⟨w.heap.size, 0, none⟩) h1).trans c0; have y1 := (hF.below.cell (p := ⟨w.heap.size, 1, none⟩) h1).trans c1; obtain ⟨s1, d1, rfl, -⟩ := (id hpx); clear HPX) | (go_at_call 16; refine (HPY _ (hF.lf hf2) (hF.ls hp2) (hF.li hy2) (hF.ll hu2)).out.mono ?_; rintro e wn ⟨r2, rfl, hpy, hb⟩; replace hpx := hpx.step hb; replace hF := hF.step hb; clear hb; clear y0 y1; have y0 := (hF.below.cell (p := ⟨w.heap.size, 0, none⟩) h1).trans c0; have y1 := (hF.below.cell (p := ⟨w.heap.size, 1, none⟩) h1).trans c1; obtain ⟨s2, d2, rfl, -⟩ := (id hpy); clear HPY) | (go_at_call 8; refine (HHX _ (hF.ls hb2) (hF.li hx2)).out.mono ?_; rintro e wn ⟨rfl, hb⟩; replace hpx := hpx.step hb; replace hpy := hpy.step hb; replace hF := hF.step hb; clear hb; clear y0 y1; have y0 := (hF.below.cell (p := ⟨w.heap.size, 0, none⟩) h1).trans c0; have y1 := (hF.below.cell (p := ⟨w.heap.size, 1, none⟩) h1).trans c1; clear HHX) | (go_at_call 8; refine (HHY _ (hF.ls hb2) (hF.li hy2)).out.mono ?_; rintro e wn ⟨rfl, hb⟩; replace hpx := hpx.step hb; replace hpy := hpy.step hb; replace hF := hF.step hb; clear hb; clear y0 y1; have y0 := (hF.below.cell (p := ⟨w.heap.size, 0, none⟩) h1).trans c0; have y1 := (hF.below.cell (p := ⟨w.heap.size, 1, none⟩) h1).trans c1; clear HHY))
   go_cut [121] from 74 to 121 (fun v wr => v = .bool false ∧ wr = wn)
   case first =>
     clear HBN HJ1 HJ2 HJK
     go_wp2
     go_meet
     case rel => exact ⟨rfl, rfl⟩
   case rest =>
    obtain ⟨rfl, rfl⟩ := hcut
    obtain ⟨b5, o5, c5, e5, -, l5, n5⟩ := hpx.open (by intro e; have := HJ1.out; rw [e] at this; simp at this)
    cases e5
    obtain ⟨b6, o6, c6, e6, -, l6, n6⟩ := hpy.open (by intro e; have := HJ2.out; rw [e] at this; simp at this)
    cases e6
    have HN5 := hid n5
    have HN6 := hid n6
    have L5 := hid l5
    have L6 := hid l6
    have hbx := hF.ls hb2
    have HBW2 := hid (hBW.trans (hF.below.mono hBW.size))
    clear hpx hpy n5 n6 l5 l6 hx2 hy2 hu2 hb2 hf2 hp2 hF hBW y0 y1 c0 c1 h1 k1 k2 k3 k4 k5 k6 k7 k8
    go_wp2
    go_loopw [24, 25] (fun m i wr => ∃ k : Nat, k ≤ u.length + 1 ∧ i = .int .i64 k ∧ m = .int .i64 (wasF PX.1 PY.1 b.length k) ∧ Fr wc wr []) (fun _ i _ => u.length + 1 - (intOf i).toNat)
    case atStart => exact ⟨0, Nat.zero_le _, rfl, rfl, Fr.start wc⟩
    case round =>
     obtain ⟨k, hk, rfl, rfl, hG⟩ := hrel
     by_cases hkl : k < u.length + 1
     · have hkk : (k : Int) < (PX.1.length : Int) := by have := HJ1.out; omega
       have hkk2 : (k : Int) < (PY.1.length : Int) := by have := HJ2.out; omega
       obtain ⟨⟨⟨pl, pf, pa, ps⟩, ql, qf, qa, qs⟩, w1, w2, w3⟩ := HJK.out k hkl
       obtain ⟨xP, yP0, eP0⟩ := HN5.out k (by have := HJ1.out; omega)
       obtain ⟨xQ, yQ0, eQ0⟩ := HN6.out k (by have := HJ2.out; omega)
       have HWS : Hid (wasF PX.1 PY.1 b.length (k + 1) = Um.farN (PX.1[k]?.getD []) (PY.1[k]?.getD []) b.length) := hid rfl
       generalize PX.1[k]?.getD [] = P at *
       generalize PY.1[k]?.getD [] = Q at *
       obtain ⟨bp, op, cp, ep, lpp, ps2⟩ := eP0.out (by intro e; rw [e] at pl; have : (0 : Nat) = b.length := pl; omega)
       obtain ⟨bq, oq, cq, eq, lqq, qs2⟩ := eQ0.out (by intro e; rw [e] at ql; have : (0 : Nat) = b.length := ql; omega)
       subst ep eq
       have yP := (hG.below.cell (p := ⟨b5, o5 + k, none⟩) L5.out).trans yP0
       have yQ := (hG.below.cell (p := ⟨b6, o6 + k, none⟩) L6.out).trans yQ0
       have eP := (eP0.keep hG.below).wide hG.size
       have eQ := (eQ0.keep hG.below).wide hG.size
       have lp := Nat.lt_of_lt_of_le L5.out hG.size
       have lq := Nat.lt_of_lt_of_le L6.out hG.size
       have HPC := hid fun j (hj : j < P.length) => (hG.below.cell (p := ⟨bp, op + j, none⟩) lpp).trans (ps2 j hj)
       have HQC := hid fun j (hj : j < Q.length) => (hG.below.cell (p := ⟨bq, oq + j, none⟩) lqq).trans (qs2 j hj)
       have LPP := hid (Nat.lt_of_lt_of_le lpp hG.size)
       have LQQ := hid (Nat.lt_of_lt_of_le lqq hG.size)
       have HPL := hid pl
       have HQL := hid ql
       have HPS := hid ps
       have HQS := hid qs
       have HF1 := hid pf
       have HF2 := hid qf
       have HA1 := hid pa
       have HA2 := hid qa
       have HW1 := hid w1
       have HW2 := hid w2
       have HW3 := hid w3
       have HHA := fun w h1 h2 => hid (bhas_any b (.slice a2 b.length cap2) P (.slice (some ⟨bp, op, none⟩) P.length cp) w h1 h2)
       have HHC := fun w h1 h2 => hid (bhas_any b (.slice a2 b.length cap2) Q (.slice (some ⟨bq, oq, none⟩) Q.length cq) w h1 h2)
       clear HJ1 HJ2 HJK HN5 HN6 yP0 yQ0 eP0 eQ0 lpp lqq ps2 qs2 pl ql ps qs pf qf pa qa w1 w2 w3 hk
       have hbw := hG.ls hbx
       go_wp2
       have hGB := hid hG
       clear hG
       obtain ⟨wo, hwo⟩ : ∃ wo, wo = wr := ⟨_, rfl⟩
       subst hwo
       go_loopw [26, 27] (fun m i wq => ∃ j : Nat, j ≤ b.length ∧ i = .int .i64 j ∧ m = .int .i64 (Um.farN P Q j) ∧ Fr wo wq []) (fun _ i _ => b.length - (intOf i).toNat)
       case atStart => exact ⟨0, Nat.zero_le _, rfl, rfl, Fr.start wo⟩
       case round =>
        obtain ⟨j, hj, rfl, rfl, hI⟩ := hrel
        have yPq := (hI.below.cell (p := ⟨b5, o5 + k, none⟩) lp).trans yP
        have yQq := (hI.below.cell (p := ⟨b6, o6 + k, none⟩) lq).trans yQ
        by_cases hjl : j < b.length
        · have jp : (j : Int) < (P.length : Int) := by have := HPL.out; omega
          have jq : (j : Int) < (Q.length : Int) := by have := HQL.out; omega
          have jpn : j < P.length := by omega
          have jqn : j < Q.length := by omega
          have ax := HPS.out j jpn
          have ay := HQS.out j jqn
          have HNX := hid (Um.farN_succ P Q j)
          have cA : wr.cell? ⟨bp, op + j, none⟩ = some (.int .i64 (Um.nm P j)) := (hI.below.cell (p := ⟨bp, op + j, none⟩) LPP.out).trans (HPC.out j jpn)
          have cB : wr.cell? ⟨bq, oq + j, none⟩ = some (.int .i64 (Um.nm Q j)) := (hI.below.cell (p := ⟨bq, oq + j, none⟩) LQQ.out).trans (HQC.out j jqn)
          have LA := hid (Nat.lt_of_lt_of_le LPP.out hI.size)
          have LB := hid (Nat.lt_of_lt_of_le LQQ.out hI.size)
          have LP := hid (Nat.lt_of_lt_of_le lp hI.size)
          have LQ := hid (Nat.lt_of_lt_of_le lq hI.size)
          clear HPC HQC HPS HQS HHA HHC HF1 HF2 HA1 HA2 HW1 HW2 HW3 HBN HPL HQL HWS yP yQ eP eQ lp lq LPP LQQ jpn jqn hbx hbw hGB
          generalize Um.nm P j = AA at *
          generalize Um.nm Q j = BB at *
          have HFR := fun w => hid (rFar0_b (AA - BB) w (by omega) (by omega))
          have HWR : Hid (IntKind.i64.wrap (AA - BB) = AA - BB) := hid (by rw [IntKind.wrap_i64]; omega)
          clear ax ay
          generalize Um.farN P Q j = FK at *
          go_upto_region 25 with fail
          have cP := yPq
          have cQ := yQq
          clear yPq yQq
          obtain ⟨Inv, hInv⟩ : ∃ Inv : Array Bool → Act → World → Prop, ∀ listed aq W', Inv listed aq W' ↔ (∃ v146 v147 v148 v149 v150 v151 v152 v153 v154 v155 v156 v157 v158 v159 v160 v161 v28 : Value, aq = { tmps := #[Value.agg #[Value.slice a0 s.length cap0, Value.slice a1 p.length cap1], Value.slice a2 b.length cap2, Value.slice a3 x.length cap3, Value.slice a4 y.length cap4, Value.slice a5 u.length cap5, Value.pointer (some { block := w.heap.size, off := 0 }), undef, undef, undef, undef, u10, Value.bool true, Value.bool true, errV PE, Value.int IntKind.i64 BN.fst, errV PX.snd, Value.bool true, errV PY.snd, Value.slice (some { block := b5, off := o5 }) PX.fst.length d1, Value.slice (some { block := b6, off := o6 }) PY.fst.length d2, Value.bool true, errV F1, Value.bool true, errV F2, Value.int IntKind.i64 (wasF PX.fst PY.fst b.length k), Value.int IntKind.i64 ↑k, Value.int IntKind.i64 FK, Value.int IntKind.i64 ↑j, v28, u29, u30, u31, u32, u33, u34, u35, u36, u37, u38, u39, u40, u41, u42, u43, u44, u45, u46, u47, u48, u49, u50, u51, u52, u53, u54, u55, u56, u57, u58, u59, u60, u61, u62, u63, u64, u65, u66, u67, u68, u69, u70, u71, u72, Value.bool false, u74, u75, u76, u77, u78, u79, u80, u81, u82, u83, u84, u85, u86, u87, u88, u89, u90, u91, u92, u93, u94, u95, u96, u97, u98, u99, u100, u101, u102, u103, u104, u105, u106, u107, u108, u109, u110, u111, u112, u113, u114, u115, u116, u117, u118, u119, u120, Value.bool false, Value.int IntKind.i64 ↑k, Value.slice (some { block := b5, off := o5 }) PX.fst.length d1, Value.int IntKind.i64 ↑PX.fst.length, Value.bool true, u126, u127, Value.int IntKind.i64 ↑j, Value.slice (some { block := b5, off := o5 }) PX.fst.length d1, Value.int IntKind.i64 ↑k, Value.pointer (some { block := b5, off := o5 + k }), Value.slice (some { block := bp, off := op }) P.length cp, Value.int IntKind.i64 ↑P.length, Value.bool true, Value.bool true, Value.int IntKind.i64 ↑j, Value.slice (some { block := b6, off := o6 }) PY.fst.length d2, Value.int IntKind.i64 ↑k, Value.pointer (some { block := b6, off := o6 + k }), Value.slice (some { block := bq, off := oq }) Q.length cq, Value.int IntKind.i64 ↑Q.length, Value.bool true, Value.bool true, u144, u145, v146, v147, v148, v149, v150, v151, v152, v153, v154, v155, v156, v157, v158, v159, v160, v161, u162, u163, u164, u165, u166, u167, u168, u169, u170, u171, u172, u173, u174, u175, u176, u177, u178, u179, u180, u181, u182, u183, u184, u185, u186, u187, u188, u189, u190, u191, u192, u193, u194, u195, u196, u197, u198, u199, u200, u201, u202, u203, u204, u205, u206, u207, u208, u209, u210, u211], defers := [] } ∧ Below (wr).heap.size (wr) W' ∧ (listed.getD 0 false = true → v146 = Value.slice (some { block := b5, off := o5 }) PX.fst.length d1) ∧ (listed.getD 1 false = true → v147 = Value.int IntKind.i64 ↑k) ∧ (listed.getD 2 false = true → v148 = Value.pointer (some ⟨b5, o5 + k, none⟩)) ∧ (listed.getD 3 false = true → v149 = Value.slice (some ⟨bp, op, none⟩) P.length cp) ∧ (listed.getD 4 false = true → v150 = Value.int IntKind.i64 ↑j) ∧ (listed.getD 5 false = true → v151 = Value.pointer (some ⟨bp, op + j, none⟩)) ∧ (listed.getD 6 false = true → v152 = Value.int .i64 AA) ∧ (listed.getD 7 false = true → v153 = Value.slice (some { block := b6, off := o6 }) PY.fst.length d2) ∧ (listed.getD 8 false = true → v154 = Value.int IntKind.i64 ↑k) ∧ (listed.getD 9 false = true → v155 = Value.pointer (some ⟨b6, o6 + k, none⟩)) ∧ (listed.getD 10 false = true → v156 = Value.slice (some ⟨bq, oq, none⟩) Q.length cq) ∧ (listed.getD 11 false = true → v157 = Value.int IntKind.i64 ↑j) ∧ (listed.getD 12 false = true → v158 = Value.pointer (some ⟨bq, oq + j, none⟩)) ∧ (listed.getD 13 false = true → v159 = Value.int .i64 BB) ∧ (listed.getD 14 false = true → v160 = Value.int .i64 (AA - BB)) ∧ (listed.getD 15 false = true → v161 = Value.int .i64 (Um.ab (AA - BB))) ∧ (listed.getD 16 false = true → v28 = Value.int .i64 (Um.ab (AA - BB)))) := ⟨_, fun _ _ _ => Iff.rfl⟩
          have HI := hid hInv
          clear hInv
          refine Free.region hmx (by kernel_rfl) Inv ?s1 ?s2 ?s3
          case s1 =>
            exact (HI.out _ _ _).2 ⟨u146, u147, u148, u149, u150, u151, u152, u153, u154, u155, u156, u157, u158, u159, u160, u161, u28, rfl, (Below.refl _ _).drew, Free.not_yet, Free.not_yet, Free.not_yet, Free.not_yet, Free.not_yet, Free.not_yet, Free.not_yet, Free.not_yet, Free.not_yet, Free.not_yet, Free.not_yet, Free.not_yet, Free.not_yet, Free.not_yet, Free.not_yet, Free.not_yet, Free.not_yet⟩
          case s2 =>
            intro i listed aq W1 hix hne hnl hsz hv
            obtain ⟨v146, v147, v148, v149, v150, v151, v152, v153, v154, v155, v156, v157, v158, v159, v160, v161, v28, rfl, hW, l0, l1, l2, l3, l4, l5, l6, l7, l8, l9, l10, l11, l12, l13, l14, l15, l16⟩ := (HI.out _ _ _).1 hv
            clear hv
            replace hix : i < 17 := hix
            replace hsz : listed.size = 17 := hsz
            rcases (by omega : i = 0 ∨ i = 1 ∨ i = 2 ∨ i = 3 ∨ i = 4 ∨ i = 5 ∨ i = 6 ∨ i = 7 ∨ i = 8 ∨ i = 9 ∨ i = 10 ∨ i = 11 ∨ i = 12 ∨ i = 13 ∨ i = 14 ∨ i = 15 ∨ i = 16) with rfl | rfl | rfl | rfl | rfl | rfl | rfl | rfl | rfl | rfl | rfl | rfl | rfl | rfl | rfl | rfl | rfl
            · refine Free.op rfl rfl (fun K hK => ?_)
              go_simp
              exact hK _ _ ((HI.out _ _ _).2 ⟨_, v147, v148, v149, v150, v151, v152, v153, v154, v155, v156, v157, v158, v159, v160, v161, v28, rfl, hW, fun _ => rfl, Free.of_set (by decide) l1, Free.of_set (by decide) l2, Free.of_set (by decide) l3, Free.of_set (by decide) l4, Free.of_set (by decide) l5, Free.of_set (by decide) l6, Free.of_set (by decide) l7, Free.of_set (by decide) l8, Free.of_set (by decide) l9, Free.of_set (by decide) l10, Free.of_set (by decide) l11, Free.of_set (by decide) l12, Free.of_set (by decide) l13, Free.of_set (by decide) l14, Free.of_set (by decide) l15, Free.of_set (by decide) l16⟩)
            · refine Free.op rfl rfl (fun K hK => ?_)
              go_simp
              exact hK _ _ ((HI.out _ _ _).2 ⟨v146, _, v148, v149, v150, v151, v152, v153, v154, v155, v156, v157, v158, v159, v160, v161, v28, rfl, hW, Free.of_set (by decide) l0, fun _ => rfl, Free.of_set (by decide) l2, Free.of_set (by decide) l3, Free.of_set (by decide) l4, Free.of_set (by decide) l5, Free.of_set (by decide) l6, Free.of_set (by decide) l7, Free.of_set (by decide) l8, Free.of_set (by decide) l9, Free.of_set (by decide) l10, Free.of_set (by decide) l11, Free.of_set (by decide) l12, Free.of_set (by decide) l13, Free.of_set (by decide) l14, Free.of_set (by decide) l15, Free.of_set (by decide) l16⟩)
            · refine Free.op rfl rfl (fun K hK => ?_)
              obtain rfl := l0 (hne 0 (by kernel_rfl))
              obtain rfl := l1 (hne 1 (by kernel_rfl))
              go_simp
              exact hK _ _ ((HI.out _ _ _).2 ⟨_, _, _, v149, v150, v151, v152, v153, v154, v155, v156, v157, v158, v159, v160, v161, v28, rfl, hW, fun _ => rfl, fun _ => rfl, fun _ => rfl, Free.of_set (by decide) l3, Free.of_set (by decide) l4, Free.of_set (by decide) l5, Free.of_set (by decide) l6, Free.of_set (by decide) l7, Free.of_set (by decide) l8, Free.of_set (by decide) l9, Free.of_set (by decide) l10, Free.of_set (by decide) l11, Free.of_set (by decide) l12, Free.of_set (by decide) l13, Free.of_set (by decide) l14, Free.of_set (by decide) l15, Free.of_set (by decide) l16⟩)
            · have z1 := (hW.cell (p := ⟨b5, o5 + k, none⟩) LP.out).trans cP
              refine Free.op rfl rfl (fun K hK => ?_)
              obtain rfl := l2 (hne 2 (by kernel_rfl))
              go_simp
              exact hK _ _ ((HI.out _ _ _).2 ⟨v146, v147, _, _, v150, v151, v152, v153, v154, v155, v156, v157, v158, v159, v160, v161, v28, rfl, hW, Free.of_set (by decide) l0, Free.of_set (by decide) l1, fun _ => rfl, fun _ => rfl, Free.of_set (by decide) l4, Free.of_set (by decide) l5, Free.of_set (by decide) l6, Free.of_set (by decide) l7, Free.of_set (by decide) l8, Free.of_set (by decide) l9, Free.of_set (by decide) l10, Free.of_set (by decide) l11, Free.of_set (by decide) l12, Free.of_set (by decide) l13, Free.of_set (by decide) l14, Free.of_set (by decide) l15, Free.of_set (by decide) l16⟩)
            · refine Free.op rfl rfl (fun K hK => ?_)
              go_simp
              exact hK _ _ ((HI.out _ _ _).2 ⟨v146, v147, v148, v149, _, v151, v152, v153, v154, v155, v156, v157, v158, v159, v160, v161, v28, rfl, hW, Free.of_set (by decide) l0, Free.of_set (by decide) l1, Free.of_set (by decide) l2, Free.of_set (by decide) l3, fun _ => rfl, Free.of_set (by decide) l5, Free.of_set (by decide) l6, Free.of_set (by decide) l7, Free.of_set (by decide) l8, Free.of_set (by decide) l9, Free.of_set (by decide) l10, Free.of_set (by decide) l11, Free.of_set (by decide) l12, Free.of_set (by decide) l13, Free.of_set (by decide) l14, Free.of_set (by decide) l15, Free.of_set (by decide) l16⟩)
            · refine Free.op rfl rfl (fun K hK => ?_)
              obtain rfl := l3 (hne 3 (by kernel_rfl))
              obtain rfl := l4 (hne 4 (by kernel_rfl))
              go_simp
              exact hK _ _ ((HI.out _ _ _).2 ⟨v146, v147, v148, _, _, _, v152, v153, v154, v155, v156, v157, v158, v159, v160, v161, v28, rfl, hW, Free.of_set (by decide) l0, Free.of_set (by decide) l1, Free.of_set (by decide) l2, fun _ => rfl, fun _ => rfl, fun _ => rfl, Free.of_set (by decide) l6, Free.of_set (by decide) l7, Free.of_set (by decide) l8, Free.of_set (by decide) l9, Free.of_set (by decide) l10, Free.of_set (by decide) l11, Free.of_set (by decide) l12, Free.of_set (by decide) l13, Free.of_set (by decide) l14, Free.of_set (by decide) l15, Free.of_set (by decide) l16⟩)
            · have z1 := (hW.cell (p := ⟨bp, op + j, none⟩) LA.out).trans cA
              refine Free.op rfl rfl (fun K hK => ?_)
              obtain rfl := l5 (hne 5 (by kernel_rfl))
              go_simp
              exact hK _ _ ((HI.out _ _ _).2 ⟨v146, v147, v148, v149, v150, _, _, v153, v154, v155, v156, v157, v158, v159, v160, v161, v28, rfl, hW, Free.of_set (by decide) l0, Free.of_set (by decide) l1, Free.of_set (by decide) l2, Free.of_set (by decide) l3, Free.of_set (by decide) l4, fun _ => rfl, fun _ => rfl, Free.of_set (by decide) l7, Free.of_set (by decide) l8, Free.of_set (by decide) l9, Free.of_set (by decide) l10, Free.of_set (by decide) l11, Free.of_set (by decide) l12, Free.of_set (by decide) l13, Free.of_set (by decide) l14, Free.of_set (by decide) l15, Free.of_set (by decide) l16⟩)
            · refine Free.op rfl rfl (fun K hK => ?_)
              go_simp
              exact hK _ _ ((HI.out _ _ _).2 ⟨v146, v147, v148, v149, v150, v151, v152, _, v154, v155, v156, v157, v158, v159, v160, v161, v28, rfl, hW, Free.of_set (by decide) l0, Free.of_set (by decide) l1, Free.of_set (by decide) l2, Free.of_set (by decide) l3, Free.of_set (by decide) l4, Free.of_set (by decide) l5, Free.of_set (by decide) l6, fun _ => rfl, Free.of_set (by decide) l8, Free.of_set (by decide) l9, Free.of_set (by decide) l10, Free.of_set (by decide) l11, Free.of_set (by decide) l12, Free.of_set (by decide) l13, Free.of_set (by decide) l14, Free.of_set (by decide) l15, Free.of_set (by decide) l16⟩)
            · refine Free.op rfl rfl (fun K hK => ?_)
              go_simp
              exact hK _ _ ((HI.out _ _ _).2 ⟨v146, v147, v148, v149, v150, v151, v152, v153, _, v155, v156, v157, v158, v159, v160, v161, v28, rfl, hW, Free.of_set (by decide) l0, Free.of_set (by decide) l1, Free.of_set (by decide) l2, Free.of_set (by decide) l3, Free.of_set (by decide) l4, Free.of_set (by decide) l5, Free.of_set (by decide) l6, Free.of_set (by decide) l7, fun _ => rfl, Free.of_set (by decide) l9, Free.of_set (by decide) l10, Free.of_set (by decide) l11, Free.of_set (by decide) l12, Free.of_set (by decide) l13, Free.of_set (by decide) l14, Free.of_set (by decide) l15, Free.of_set (by decide) l16⟩)
            · refine Free.op rfl rfl (fun K hK => ?_)
              obtain rfl := l7 (hne 7 (by kernel_rfl))
              obtain rfl := l8 (hne 8 (by kernel_rfl))
              go_simp
              exact hK _ _ ((HI.out _ _ _).2 ⟨v146, v147, v148, v149, v150, v151, v152, _, _, _, v156, v157, v158, v159, v160, v161, v28, rfl, hW, Free.of_set (by decide) l0, Free.of_set (by decide) l1, Free.of_set (by decide) l2, Free.of_set (by decide) l3, Free.of_set (by decide) l4, Free.of_set (by decide) l5, Free.of_set (by decide) l6, fun _ => rfl, fun _ => rfl, fun _ => rfl, Free.of_set (by decide) l10, Free.of_set (by decide) l11, Free.of_set (by decide) l12, Free.of_set (by decide) l13, Free.of_set (by decide) l14, Free.of_set (by decide) l15, Free.of_set (by decide) l16⟩)
            · have z1 := (hW.cell (p := ⟨b6, o6 + k, none⟩) LQ.out).trans cQ
              refine Free.op rfl rfl (fun K hK => ?_)
              obtain rfl := l9 (hne 9 (by kernel_rfl))
              go_simp
              exact hK _ _ ((HI.out _ _ _).2 ⟨v146, v147, v148, v149, v150, v151, v152, v153, v154, _, _, v157, v158, v159, v160, v161, v28, rfl, hW, Free.of_set (by decide) l0, Free.of_set (by decide) l1, Free.of_set (by decide) l2, Free.of_set (by decide) l3, Free.of_set (by decide) l4, Free.of_set (by decide) l5, Free.of_set (by decide) l6, Free.of_set (by decide) l7, Free.of_set (by decide) l8, fun _ => rfl, fun _ => rfl, Free.of_set (by decide) l11, Free.of_set (by decide) l12, Free.of_set (by decide) l13, Free.of_set (by decide) l14, Free.of_set (by decide) l15, Free.of_set (by decide) l16⟩)
            · refine Free.op rfl rfl (fun K hK => ?_)
              go_simp
              exact hK _ _ ((HI.out _ _ _).2 ⟨v146, v147, v148, v149, v150, v151, v152, v153, v154, v155, v156, _, v158, v159, v160, v161, v28, rfl, hW, Free.of_set (by decide) l0, Free.of_set (by decide) l1, Free.of_set (by decide) l2, Free.of_set (by decide) l3, Free.of_set (by decide) l4, Free.of_set (by decide) l5, Free.of_set (by decide) l6, Free.of_set (by decide) l7, Free.of_set (by decide) l8, Free.of_set (by decide) l9, Free.of_set (by decide) l10, fun _ => rfl, Free.of_set (by decide) l12, Free.of_set (by decide) l13, Free.of_set (by decide) l14, Free.of_set (by decide) l15, Free.of_set (by decide) l16⟩)
            · refine Free.op rfl rfl (fun K hK => ?_)
              obtain rfl := l10 (hne 10 (by kernel_rfl))
              obtain rfl := l11 (hne 11 (by kernel_rfl))
              go_simp
              exact hK _ _ ((HI.out _ _ _).2 ⟨v146, v147, v148, v149, v150, v151, v152, v153, v154, v155, _, _, _, v159, v160, v161, v28, rfl, hW, Free.of_set (by decide) l0, Free.of_set (by decide) l1, Free.of_set (by decide) l2, Free.of_set (by decide) l3, Free.of_set (by decide) l4, Free.of_set (by decide) l5, Free.of_set (by decide) l6, Free.of_set (by decide) l7, Free.of_set (by decide) l8, Free.of_set (by decide) l9, fun _ => rfl, fun _ => rfl, fun _ => rfl, Free.of_set (by decide) l13, Free.of_set (by decide) l14, Free.of_set (by decide) l15, Free.of_set (by decide) l16⟩)
            · have z1 := (hW.cell (p := ⟨bq, oq + j, none⟩) LB.out).trans cB
              refine Free.op rfl rfl (fun K hK => ?_)
              obtain rfl := l12 (hne 12 (by kernel_rfl))
              go_simp
              exact hK _ _ ((HI.out _ _ _).2 ⟨v146, v147, v148, v149, v150, v151, v152, v153, v154, v155, v156, v157, _, _, v160, v161, v28, rfl, hW, Free.of_set (by decide) l0, Free.of_set (by decide) l1, Free.of_set (by decide) l2, Free.of_set (by decide) l3, Free.of_set (by decide) l4, Free.of_set (by decide) l5, Free.of_set (by decide) l6, Free.of_set (by decide) l7, Free.of_set (by decide) l8, Free.of_set (by decide) l9, Free.of_set (by decide) l10, Free.of_set (by decide) l11, fun _ => rfl, fun _ => rfl, Free.of_set (by decide) l14, Free.of_set (by decide) l15, Free.of_set (by decide) l16⟩)
            · have hw : IntKind.i64.wrap (AA - BB) = AA - BB := HWR.out
              refine Free.op rfl rfl (fun K hK => ?_)
              obtain rfl := l6 (hne 6 (by kernel_rfl))
              obtain rfl := l13 (hne 13 (by kernel_rfl))
              go_simp
              exact hK _ _ ((HI.out _ _ _).2 ⟨v146, v147, v148, v149, v150, v151, _, v153, v154, v155, v156, v157, v158, _, _, v161, v28, rfl, hW, Free.of_set (by decide) l0, Free.of_set (by decide) l1, Free.of_set (by decide) l2, Free.of_set (by decide) l3, Free.of_set (by decide) l4, Free.of_set (by decide) l5, fun _ => rfl, Free.of_set (by decide) l7, Free.of_set (by decide) l8, Free.of_set (by decide) l9, Free.of_set (by decide) l10, Free.of_set (by decide) l11, Free.of_set (by decide) l12, fun _ => rfl, fun _ => rfl, Free.of_set (by decide) l15, Free.of_set (by decide) l16⟩)
            · refine Free.op rfl rfl (fun K hK => ?_)
              obtain rfl := l14 (hne 14 (by kernel_rfl))
              go_wp2_with (go_at_call 10; refine (HFR _).out.mono ?_; rintro e W3 ⟨rfl, hb⟩)
              exact (HI.out _ _ _).2 ⟨v146, v147, v148, v149, v150, v151, v152, v153, v154, v155, v156, v157, v158, v159, _, _, v28, rfl, hW.trans (hb.mono hW.size), Free.of_set (by decide) l0, Free.of_set (by decide) l1, Free.of_set (by decide) l2, Free.of_set (by decide) l3, Free.of_set (by decide) l4, Free.of_set (by decide) l5, Free.of_set (by decide) l6, Free.of_set (by decide) l7, Free.of_set (by decide) l8, Free.of_set (by decide) l9, Free.of_set (by decide) l10, Free.of_set (by decide) l11, Free.of_set (by decide) l12, Free.of_set (by decide) l13, fun _ => rfl, fun _ => rfl, Free.of_set (by decide) l16⟩
            · refine Free.op rfl rfl (fun K hK => ?_)
              obtain rfl := l15 (hne 15 (by kernel_rfl))
              go_simp
              exact hK _ _ ((HI.out _ _ _).2 ⟨v146, v147, v148, v149, v150, v151, v152, v153, v154, v155, v156, v157, v158, v159, v160, _, _, rfl, hW, Free.of_set (by decide) l0, Free.of_set (by decide) l1, Free.of_set (by decide) l2, Free.of_set (by decide) l3, Free.of_set (by decide) l4, Free.of_set (by decide) l5, Free.of_set (by decide) l6, Free.of_set (by decide) l7, Free.of_set (by decide) l8, Free.of_set (by decide) l9, Free.of_set (by decide) l10, Free.of_set (by decide) l11, Free.of_set (by decide) l12, Free.of_set (by decide) l13, Free.of_set (by decide) l14, fun _ => rfl, fun _ => rfl⟩)
          case s3 =>
            intro listed aq W1 hall hsz hv
            obtain ⟨v146, v147, v148, v149, v150, v151, v152, v153, v154, v155, v156, v157, v158, v159, v160, v161, v28, rfl, hW, l0, l1, l2, l3, l4, l5, l6, l7, l8, l9, l10, l11, l12, l13, l14, l15, l16⟩ := (HI.out _ _ _).1 hv
            clear hv HI
            obtain rfl := l0 (Free.listed_of hall hsz 0 (by decide))
            obtain rfl := l1 (Free.listed_of hall hsz 1 (by decide))
            obtain rfl := l2 (Free.listed_of hall hsz 2 (by decide))
            obtain rfl := l3 (Free.listed_of hall hsz 3 (by decide))
            obtain rfl := l4 (Free.listed_of hall hsz 4 (by decide))
            obtain rfl := l5 (Free.listed_of hall hsz 5 (by decide))
            obtain rfl := l6 (Free.listed_of hall hsz 6 (by decide))
            obtain rfl := l7 (Free.listed_of hall hsz 7 (by decide))
            obtain rfl := l8 (Free.listed_of hall hsz 8 (by decide))
            obtain rfl := l9 (Free.listed_of hall hsz 9 (by decide))
            obtain rfl := l10 (Free.listed_of hall hsz 10 (by decide))
            obtain rfl := l11 (Free.listed_of hall hsz 11 (by decide))
            obtain rfl := l12 (Free.listed_of hall hsz 12 (by decide))
            obtain rfl := l13 (Free.listed_of hall hsz 13 (by decide))
            obtain rfl := l14 (Free.listed_of hall hsz 14 (by decide))
            obtain rfl := l15 (Free.listed_of hall hsz 15 (by decide))
            obtain rfl := l16 (Free.listed_of hall hsz 16 (by decide))
            clear hall hsz
            replace hI := hI.step hW
            clear hW HFR HWR LA LB cA cB LP LQ cP cQ
            by_cases hd : FK < Um.ab (AA - BB)
            · have cg : decide (FK < Um.ab (AA - BB)) = true := decide_eq_true hd
              have HM : Hid (Um.farN P Q (j + 1) = Um.ab (AA - BB)) := hid (by rw [HNX.out]; omega)
              clear hd HNX
              go_wp2
              exact ⟨⟨j + 1, by omega, by simp, by rw [HM.out], hI⟩, by simp [intOf]; omega⟩
            · have cg : decide (FK < Um.ab (AA - BB)) = false := decide_eq_false hd
              have HM : Hid (Um.farN P Q (j + 1) = FK) := hid (by rw [HNX.out]; omega)
              clear hd HNX
              go_wp2
              exact ⟨⟨j + 1, by omega, by simp, by rw [HM.out], hI⟩, by simp [intOf]; omega⟩

        · obtain rfl : j = b.length := by omega
          have dj : decide ((b.length : Int) < (P.length : Int)) = false := decide_eq_false (by have := HPL.out; omega)
          have djn : decide (b.length < P.length) = false := decide_eq_false (by have := HPL.out; omega)
          replace eP := (eP.keep hI.below).wide hI.size
          replace eQ := (eQ.keep hI.below).wide hI.size
          replace lp := Nat.lt_of_lt_of_le lp hI.size
          replace lq := Nat.lt_of_lt_of_le lq hI.size
          clear yP yQ
          have yP := yPq
          have yQ := yQq
          have hJ := hI
          rw [HWS.out] at HW1 HW3
          have z1 := HW1.out
          have z2 := HW2.out
          have z3 := HBN.out
          have sm := Um.bound_small z3.1 z3.2 z2.1 z2.2
          have HX1 : Hid (IntKind.i64.wrap (Um.farN P Q b.length * 1000) = Um.farN P Q b.length * 1000) := hid (by rw [IntKind.wrap_i64]; omega)
          have HX2 : Hid (IntKind.i64.wrap (BN.1 * wasF PX.1 PY.1 b.length k) = BN.1 * wasF PX.1 PY.1 b.length k) := hid (by generalize BN.1 * wasF PX.1 PY.1 b.length k = QQ at *; rw [IntKind.wrap_i64]; omega)
          have HX3 : Hid (IntKind.i64.wrap (BN.1 * wasF PX.1 PY.1 b.length k + 1000) = BN.1 * wasF PX.1 PY.1 b.length k + 1000) := hid (by generalize BN.1 * wasF PX.1 PY.1 b.length k = QQ at *; rw [IntKind.wrap_i64]; omega)
          have HX4 : 0 < k → Hid (decide (BN.1 * wasF PX.1 PY.1 b.length k + 1000 < Um.farN P Q b.length * 1000) = false) := fun h => hid (decide_eq_false (by have := HW3.out h; generalize BN.1 * wasF PX.1 PY.1 b.length k = QQ at *; omega))
          have k5 : (Um.hasF b P != 0) = false := by simpa using HF1.out
          have k6 : (Um.hasF b Q != 0) = false := by simpa using HF2.out
          rw [HA1.out] at HHA
          rw [HA2.out] at HHC
          clear hI hj hjl yPq yQq HPC HQC HPS HQS HF1 HF2 HA1 HA2 HW1 HW2 HW3 HBN HPL HQL LPP LQQ z1 z2 z3 sm
          generalize Um.hasF b P = G1 at *
          generalize Um.hasF b Q = G2 at *
          generalize Um.farN P Q b.length = FK at *
          generalize wasF PX.1 PY.1 b.length k = WK at *
          by_cases k0 : k = 0
          · have dk : decide (0 < (k : Int)) = false := decide_eq_false (by omega)
            have dkn : decide (0 < k) = false := decide_eq_false (by omega)
            clear k0 HX1 HX2 HX3 HX4
            go_wp2_with (first | (go_at_call 8; refine (HHA _ (hJ.ls hbw) eP).out.mono ?_; rintro e wn ⟨rfl, hb⟩; have yP := (hb.cell (p := ⟨b5, o5 + k, none⟩) lp).trans yP; have yQ := (hb.cell (p := ⟨b6, o6 + k, none⟩) lq).trans yQ; replace eP := (eP.keep hb).wide hb.size; replace eQ := (eQ.keep hb).wide hb.size; replace lp := Nat.lt_of_lt_of_le lp hb.size; replace lq := Nat.lt_of_lt_of_le lq hb.size; replace hJ := hJ.step hb; clear HHA hb) | (go_at_call 8; refine (HHC _ (hJ.ls hbw) eQ).out.mono ?_; rintro e wn ⟨rfl, hb⟩; replace hJ := hJ.step hb; clear HHC hb yP yQ eP eQ lp lq))
            exact ⟨⟨k + 1, by omega, by simp, by rw [HWS.out], ⟨hGB.out.below.trans (hJ.below.mono hGB.out.size), by simp, List.Pairwise.nil⟩⟩, by simp [intOf]; omega⟩
          · have dk : decide (0 < (k : Int)) = true := decide_eq_true (by omega)
            have dkn : decide (0 < k) = true := decide_eq_true (by omega)
            have hw1 := HX1.out
            have hw2 := HX2.out
            have hw3 := HX3.out
            have cg := (HX4 (by omega)).out
            clear k0 HX1 HX2 HX3 HX4
            go_wp2_with (first | (go_at_call 8; refine (HHA _ (hJ.ls hbw) eP).out.mono ?_; rintro e wn ⟨rfl, hb⟩; have yP := (hb.cell (p := ⟨b5, o5 + k, none⟩) lp).trans yP; have yQ := (hb.cell (p := ⟨b6, o6 + k, none⟩) lq).trans yQ; replace eP := (eP.keep hb).wide hb.size; replace eQ := (eQ.keep hb).wide hb.size; replace lp := Nat.lt_of_lt_of_le lp hb.size; replace lq := Nat.lt_of_lt_of_le lq hb.size; replace hJ := hJ.step hb; clear HHA hb) | (go_at_call 8; refine (HHC _ (hJ.ls hbw) eQ).out.mono ?_; rintro e wn ⟨rfl, hb⟩; replace hJ := hJ.step hb; clear HHC hb yP yQ eP eQ lp lq))
            exact ⟨⟨k + 1, by omega, by simp, by rw [HWS.out], ⟨hGB.out.below.trans (hJ.below.mono hGB.out.size), by simp, List.Pairwise.nil⟩⟩, by simp [intOf]; omega⟩
     · clear HJK HN5 HN6 HJ2
       have hkk : ¬ (k : Int) < (PX.1.length : Int) := by have := HJ1.out; omega
       clear HJ1
       go_wp2
       go_returns
       exact ⟨rfl, HBW2.out.trans (hG.below.mono HBW2.out.size)⟩

theorem walk (s : List (List Um.Tm)) (v0 : Value) (p : List (Int × Int)) (v1 : Value) (b : List (Int × Int)) (v : Value) (x : List Int) (t : Value) (y : List Int) (z : Value) (u : List (List Int)) (r : Value) (w : World) (hf : Lf w.heap.size w v0 s) (hp : Ls w.heap.size w v1 p) (hs : Ls w.heap.size w v b) (hx : Li w.heap.size w t x) (hy : Li w.heap.size w z y) (hu : Ll w.heap.size w r u) :
    Calls Try.prog 5 #[.agg #[v0, v1], v, t, z, r] w fun e w' => e = .returned (.bool true) ∧ Below w.heap.size w w' := by
  by_cases hl : (Um.pullAll s p b).1 = true ∧ (Um.pullAll s p b).2 = 0
  · by_cases h : (Um.pathAll s p x u).2 = 0 ∧ (Um.pathAll s p y u).2 = 0 ∧ Um.hasF b x = 0 ∧ Um.hasF b y = 0 ∧ hasA b x = true ∧ hasA b y = true
    · exact walk_main s v0 p v1 b v x t y z u r w hf hp hs hx hy hu hl.1 hl.2 h.1 h.2.1 h.2.2.1 h.2.2.2.1 h.2.2.2.2.1 h.2.2.2.2.2
    · exact walk_has s v0 p v1 b v x t y z u r w hf hp hs hx hy hu hl.1 hl.2 h
  · exact walk_pull s v0 p v1 b v x t y z u r w hf hp hs hx hy hu hl
end Go.Proofs.Ytmkdjaafkigemaa.TPull
