/-
  The walk over 'spantop.TopTube': for all s, b, depth, x, push, bad it returns true.
-/
import Derived.Test.YtkeoafbkbblnaaaFlow
import Derived.Test.YtkeoafbkbblnaaaCover
import Derived.Test.YtkeoafbkbblnaaaSafe
import Derived.Test.YtkeoafbkbblnaaaBoxH
import Derived.Test.YtkeoafbkbblnaaaTopOne
import Derived.Test.YtkeoafbkbblnaaaMaths3
import Derived.Test.YtkeoafbkbblnaaaMems2
import Derived.LoopTactic
import Derived.Deep.CutRange
namespace Go.Proofs.Ytkeoafbkbblnaaa.TTube
set_option linter.unusedSimpArgs false
open Go.RowKit

/-- Is the path to be followed? -/
def folB (s : List (List Um.Tm)) (p b : List (Int × Int)) (x : List Int) (u : List (List Int)) : Bool := decide ((Um.pathAll s p x u).2 = 0) && decide (Um.hasF b x = 0) && hasA b x
theorem in_tube {s : List (List Um.Tm)} {p b : List (Int × Int)} {n : Int} {u : List (List Int)} (ht : (Um.tubeAll s p b u.length).2 = 0) (hn : 0 ≤ n ∧ n ≤ 3) : (Um.tubeAll s p b u.length).1.length = u.length + 1 ∧ u.length ≤ 20 ∧ ∀ k, k < u.length → (Um.covAll s p (Um.pieT s p b n k) n).2 = 0 ∧ Um.boxesF (Um.pieT s p b n (k + 1)) ((Um.tubeAll s p b u.length).1[k + 1]?.getD []) = 0 ∧ withinA (Um.pieT s p b n (k + 1)) ((Um.tubeAll s p b u.length).1[k + 1]?.getD []) = true := by
  obtain ⟨h1, hr, h3, e⟩ := Um.tubeAll_told ht
  rw [Int.toNat_natCast] at h3 e
  have hd : 0 ≤ n ∧ n ≤ 5 := by omega
  refine ⟨by rw [e]; exact Um.tubes_length _ _ _ _, by omega, fun k hk => ?_⟩
  rw [e]
  show _ ∧ Um.boxesF _ ((Um.tubes s p b (u.length + 1))[k + 1]?.getD []) = 0 ∧ withinA _ ((Um.tubes s p b (u.length + 1))[k + 1]?.getD []) = true
  rw [Um.tubes_get (by omega)]
  have t1 := Um.tube_down h3 (show k + 1 ≤ u.length by omega)
  obtain ⟨p1, p2, p3⟩ := Um.pieT_ok hr hd t1
  have hb : Um.boxesF (Um.pieT s p b n (k + 1)) (Um.tubeN s p b (k + 1)).1 = 0 := Um.boxes_ok.2 ⟨(Um.ready_ok.1 p1).2.1, (Um.ready_ok.1 (Um.tube_ready hr t1)).2.1, p3⟩
  refine ⟨Um.pieT_next hr hd t1, hb, ?_⟩
  unfold withinA
  rw [hb]
  simp only [decide_true, Bool.true_and]
  exact decide_eq_true p2
theorem fol_good {s : List (List Um.Tm)} {p b : List (Int × Int)} {x : List Int} {u : List (List Int)} (h : folB s p b x u = true) : (Um.pathAll s p x u).2 = 0 ∧ Um.hasF b x = 0 ∧ Um.hasP b x := by
  unfold folB at h
  rw [Bool.and_eq_true, Bool.and_eq_true] at h
  obtain ⟨⟨h1, h2⟩, h3⟩ := h
  unfold hasA at h3
  rw [Bool.and_eq_true] at h3
  exact ⟨of_decide_eq_true h1, of_decide_eq_true h2, of_decide_eq_true h3.2⟩
theorem in_path {s : List (List Um.Tm)} {p b : List (Int × Int)} {n : Int} {x : List Int} {u : List (List Int)} (ht : (Um.tubeAll s p b u.length).2 = 0) (hn : 0 ≤ n ∧ n ≤ 3) (h : folB s p b x u = true) : (Um.pathAll s p x u).1.length = u.length + 1 ∧ ∀ k, k < u.length → Um.hasF (Um.pieT s p b n (k + 1)) ((Um.pathAll s p x u).1[k + 1]?.getD []) = 0 ∧ hasA (Um.pieT s p b n (k + 1)) ((Um.pathAll s p x u).1[k + 1]?.getD []) = true := by
  obtain ⟨h1, hr, h3, e⟩ := Um.tubeAll_told ht
  rw [Int.toNat_natCast] at h3 e
  obtain ⟨g1, g2, g3⟩ := fol_good h
  obtain ⟨f0, f1, f2⟩ := Um.pathAll_good g1
  obtain ⟨l20, hsy, hxl⟩ := Um.pathF_ok.1 f0
  have hd : 0 ≤ n ∧ n ≤ 5 := by omega
  have hlen : x.length = b.length := by have := (Um.ready_ok.1 hr).2.2; omega
  refine ⟨by rw [f2]; exact Um.paths_length _ _ _ _ _, fun k hk => ?_⟩
  rw [f2]
  show Um.hasF _ ((Um.paths s p x u (u.length + 1))[k + 1]?.getD []) = 0 ∧ hasA _ ((Um.paths s p x u (u.length + 1))[k + 1]?.getD []) = true
  rw [Um.paths_get (by omega)]
  have t1 := Um.tube_down h3 (show k + 1 ≤ u.length by omega)
  obtain ⟨q1, q2⟩ := Um.pieT_has hr hd g3 hlen t1 (Um.path_down f1 (show k + 1 ≤ u.length by omega))
  have hb := (Um.ready_ok.1 (Um.pieT_ok hr hd t1).1).2.1
  have e : Um.hasF (Um.pieT s p b n (k + 1)) (Um.pathN s p x u (k + 1)).1 = 0 := by unfold Um.hasF; rw [if_pos hb, if_pos q2]
  refine ⟨e, ?_⟩
  unfold hasA
  rw [e]
  simp only [decide_true, Bool.true_and]
  exact decide_eq_true q1
theorem in_bad {s : List (List Um.Tm)} {p b d : List (Int × Int)} {x : List Int} {u : List (List Int)} (hs : Um.safeF s p b d u.length = 0) (h : folB s p b x u = true) : ∀ k, k < u.length + 1 → Um.hasF d ((Um.pathAll s p x u).1[k]?.getD []) = 0 ∧ (Um.clearB s p b d u.length = true → hasA d ((Um.pathAll s p x u).1[k]?.getD []) = false) := by
  intro k hk
  obtain ⟨g1, g2, g3⟩ := fol_good h
  obtain ⟨f0, f1, f2⟩ := Um.pathAll_good g1
  obtain ⟨h1, h2, h3⟩ := Um.safe_ok.1 hs
  obtain ⟨hn, hr, ht, e⟩ := Um.tubeAll_told h2
  rw [Int.toNat_natCast] at ht e
  obtain ⟨l20, hsy, hxl⟩ := Um.pathF_ok.1 f0
  have hlen : x.length = b.length := by have := (Um.ready_ok.1 hr).2.2; omega
  rw [f2]
  show Um.hasF d ((Um.paths s p x u (u.length + 1))[k]?.getD []) = 0 ∧ (Um.clearB s p b d u.length = true → hasA d ((Um.paths s p x u (u.length + 1))[k]?.getD []) = false)
  rw [Um.paths_get hk]
  have t1 := Um.tube_down ht (show k ≤ u.length by omega)
  obtain ⟨q1, q2⟩ := Um.flow_in (u := u) hr g3 hlen t1 (Um.path_down f1 (show k ≤ u.length by omega))
  have r1 := (Um.ready_ok.1 (Um.tube_ready hr t1)).2.2
  have r2 := (Um.ready_ok.1 hr).2.2
  refine ⟨by unfold Um.hasF; rw [if_pos h1, if_pos (by omega)], fun hc => ?_⟩
  have hm : Um.metB ((Um.tubeAll s p b u.length).1[k]?.getD []) d = false := by
    refine Um.when_none ?_ (by rw [e]; show k < (Um.tubes s p b (u.length + 1)).length; rw [Um.tubes_length]; exact hk)
    unfold Um.clearB at hc
    rw [Bool.and_eq_true] at hc
    intro g
    rw [decide_eq_true g] at hc
    exact absurd hc.2 (by decide)
  have nv := (Um.safe_never hs g1 g3 hk hm).1
  unfold hasA
  rw [Bool.and_eq_false_iff]
  exact .inr (decide_eq_false nv)

set_option maxRecDepth 100000 in
set_option maxHeartbeats 16000000 in
theorem walk_early (s : List (List Um.Tm)) (v0 : Value) (p : List (Int × Int)) (v1 : Value) (b : List (Int × Int)) (v : Value) (n : Int) (x : List Int) (t : Value) (u : List (List Int)) (r : Value) (d : List (Int × Int)) (z : Value) (w : World) (hf : Lf w.heap.size w v0 s) (hp : Ls w.heap.size w v1 p) (hs : Ls w.heap.size w v b) (hx : Li w.heap.size w t x) (hu : Ll w.heap.size w r u) (hd : Ls w.heap.size w z d) (h : ¬ (Um.tubeAll s p b u.length).2 = 0 ∨ ¬ (0 ≤ n ∧ n ≤ 3)) :
    Calls Try.prog 8 #[.agg #[v0, v1], v, .int .i64 n, t, r, z] w fun e w' => e = .returned (.bool true) ∧ Below w.heap.size w w' := by
  have v0 := errV_none
  have q1 := errG
  have q2 := errGn
  have q3 := errE
  have q4 := errN
  obtain ⟨a0, cap0, rfl, -⟩ := (id hf)
  obtain ⟨a1, cap1, rfl, -⟩ := (id hp)
  obtain ⟨a2, cap2, rfl, -⟩ := (id hs)
  obtain ⟨a3, cap3, rfl, -⟩ := (id hx)
  obtain ⟨a4, cap4, rfl, -⟩ := (id hu)
  obtain ⟨a5, cap5, rfl, -⟩ := (id hd)
  have h1 : w.heap.size < (w.alloc (.cells #[.slice a0 s.length cap0, .slice a1 p.length cap1] 25)).heap.size := by simp
  have hBW : Below w.heap.size w (w.alloc (.cells #[.slice a0 s.length cap0, .slice a1 p.length cap1] 25)) := by go_grown
  obtain ⟨c0, c1⟩ := sys_cells w (.slice a0 s.length cap0) (.slice a1 p.length cap1) 25
  have hF := Fr.start (w.alloc (.cells #[.slice a0 s.length cap0, .slice a1 p.length cap1] 25))
  have hf2 := hf.step hBW
  have hp2 := hp.step hBW
  have hb2 := hs.step hBW
  have hx2 := (hx.keep hBW).wide hBW.size
  have hu2 := hu.step hBW
  have hd2 := hd.step hBW
  have HRU := fun w h1 h2 h3 => hid (flRun_any s (.slice a0 s.length cap0) p (.slice a1 p.length cap1) b (.slice a2 b.length cap2) u.length w h1 h2 h3)
  clear hf hp hs hx hu hd
  have y0 := c0
  have y1 := c1
  clear hx2 hu2 hd2
  by_cases ht : (Um.tubeAll s p b u.length).2 = 0
  · have k : ((Um.tubeAll s p b u.length).2 != 0) = false := by simpa using ht
    rcases (by omega : n < 0 ∨ (¬ n < 0 ∧ 3 < n)) with t1 | ⟨t1, t2⟩
    · have d1 : decide (n < 0) = true := decide_eq_true t1
      clear h ht
      generalize Um.tubeAll s p b u.length = TA at *
      go_enter Try.func8, Try.ntmps8
      go_upto_region 4 with (go_at_call 24; refine (hid (one_any _)).out.mono ?_; rintro e wn ⟨rfl, hb⟩; replace hF := hF.step hb; clear hb; clear y0 y1; have y0 := (hF.below.cell (p := ⟨w.heap.size, 0, none⟩) h1).trans c0; have y1 := (hF.below.cell (p := ⟨w.heap.size, 1, none⟩) h1).trans c1)
      go_wp2_with (go_at_call 18; refine (HRU _ (hF.lf hf2) (hF.ls hp2) (hF.ls hb2)).out.mono ?_; rintro e wn ⟨r1, rfl, htb, hb⟩; replace hF := hF.step hb; clear hb; clear y0 y1; have y0 := (hF.below.cell (p := ⟨w.heap.size, 0, none⟩) h1).trans c0; have y1 := (hF.below.cell (p := ⟨w.heap.size, 1, none⟩) h1).trans c1; obtain ⟨s1, d1, rfl, -⟩ := (id htb); clear HRU)
      go_returns
      exact ⟨rfl, hBW.trans (hF.below.mono hBW.size)⟩
    · have d1 : decide (n < 0) = false := decide_eq_false t1
      have d2 : decide (3 < n) = true := decide_eq_true t2
      clear h ht
      generalize Um.tubeAll s p b u.length = TA at *
      go_enter Try.func8, Try.ntmps8
      go_upto_region 4 with (go_at_call 24; refine (hid (one_any _)).out.mono ?_; rintro e wn ⟨rfl, hb⟩; replace hF := hF.step hb; clear hb; clear y0 y1; have y0 := (hF.below.cell (p := ⟨w.heap.size, 0, none⟩) h1).trans c0; have y1 := (hF.below.cell (p := ⟨w.heap.size, 1, none⟩) h1).trans c1)
      go_wp2_with (go_at_call 18; refine (HRU _ (hF.lf hf2) (hF.ls hp2) (hF.ls hb2)).out.mono ?_; rintro e wn ⟨r1, rfl, htb, hb⟩; replace hF := hF.step hb; clear hb; clear y0 y1; have y0 := (hF.below.cell (p := ⟨w.heap.size, 0, none⟩) h1).trans c0; have y1 := (hF.below.cell (p := ⟨w.heap.size, 1, none⟩) h1).trans c1; obtain ⟨s1, d1, rfl, -⟩ := (id htb); clear HRU)
      go_returns
      exact ⟨rfl, hBW.trans (hF.below.mono hBW.size)⟩
  · have k : ((Um.tubeAll s p b u.length).2 != 0) = true := by simpa using ht
    clear h ht
    generalize Um.tubeAll s p b u.length = TA at *
    go_enter Try.func8, Try.ntmps8
    go_upto_region 4 with (go_at_call 24; refine (hid (one_any _)).out.mono ?_; rintro e wn ⟨rfl, hb⟩; replace hF := hF.step hb; clear hb; clear y0 y1; have y0 := (hF.below.cell (p := ⟨w.heap.size, 0, none⟩) h1).trans c0; have y1 := (hF.below.cell (p := ⟨w.heap.size, 1, none⟩) h1).trans c1)
    go_wp2_with (go_at_call 18; refine (HRU _ (hF.lf hf2) (hF.ls hp2) (hF.ls hb2)).out.mono ?_; rintro e wn ⟨r1, rfl, htb, hb⟩; replace hF := hF.step hb; clear hb; clear y0 y1; have y0 := (hF.below.cell (p := ⟨w.heap.size, 0, none⟩) h1).trans c0; have y1 := (hF.below.cell (p := ⟨w.heap.size, 1, none⟩) h1).trans c1; obtain ⟨s1, d1, rfl, -⟩ := (id htb); clear HRU)
    go_returns
    exact ⟨rfl, hBW.trans (hF.below.mono hBW.size)⟩

set_option maxRecDepth 100000 in
set_option maxHeartbeats 16000000 in
theorem walk_main (s : List (List Um.Tm)) (v0 : Value) (p : List (Int × Int)) (v1 : Value) (b : List (Int × Int)) (v : Value) (n : Int) (x : List Int) (t : Value) (u : List (List Int)) (r : Value) (d : List (Int × Int)) (z : Value) (w : World) (hf : Lf w.heap.size w v0 s) (hp : Ls w.heap.size w v1 p) (hs : Ls w.heap.size w v b) (hx : Li w.heap.size w t x) (hu : Ll w.heap.size w r u) (hd : Ls w.heap.size w z d) (ht : (Um.tubeAll s p b u.length).2 = 0) (hn : 0 ≤ n ∧ n ≤ 3) :
    Calls Try.prog 8 #[.agg #[v0, v1], v, .int .i64 n, t, r, z] w fun e w' => e = .returned (.bool true) ∧ Below w.heap.size w w' := by
  have v0 := errV_none
  have q1 := errG
  have q2 := errGn
  have q3 := errE
  have q4 := errN
  obtain ⟨a0, cap0, rfl, -⟩ := (id hf)
  obtain ⟨a1, cap1, rfl, -⟩ := (id hp)
  obtain ⟨a2, cap2, rfl, -⟩ := (id hs)
  obtain ⟨a3, cap3, rfl, -⟩ := (id hx)
  obtain ⟨a4, cap4, rfl, -⟩ := (id hu)
  obtain ⟨a5, cap5, rfl, -⟩ := (id hd)
  have h1 : w.heap.size < (w.alloc (.cells #[.slice a0 s.length cap0, .slice a1 p.length cap1] 25)).heap.size := by simp
  have hBW : Below w.heap.size w (w.alloc (.cells #[.slice a0 s.length cap0, .slice a1 p.length cap1] 25)) := by go_grown
  obtain ⟨c0, c1⟩ := sys_cells w (.slice a0 s.length cap0) (.slice a1 p.length cap1) 25
  have hF := Fr.start (w.alloc (.cells #[.slice a0 s.length cap0, .slice a1 p.length cap1] 25))
  have hf2 := hf.step hBW
  have hp2 := hp.step hBW
  have hb2 := hs.step hBW
  have hx2 := (hx.keep hBW).wide hBW.size
  have hu2 := hu.step hBW
  have hd2 := hd.step hBW
  have HRU := fun w h1 h2 h3 => hid (flRun_any s (.slice a0 s.length cap0) p (.slice a1 p.length cap1) b (.slice a2 b.length cap2) u.length w h1 h2 h3)
  clear hf hp hs hx hu hd
  have y0 := c0
  have y1 := c1
  obtain ⟨j1, j2, j3⟩ := in_tube ht hn
  have J3 := hid j3
  have HPZ : Hid (folB s p b x u = true → _ ∧ _) := hid fun h => in_path ht hn h
  have HBZ : Hid (Um.safeF s p b d u.length = 0 → folB s p b x u = true → _) := hid fun h h2 => in_bad h h2
  have HPA := fun w h1 h2 h3 h4 => hid (flPath_any s (.slice a0 s.length cap0) p (.slice a1 p.length cap1) x (.slice a3 x.length cap3) u (.slice a4 u.length cap4) w h1 h2 h3 h4)
  have HHA := fun w h1 h2 => hid (bhas_any b (.slice a2 b.length cap2) x (.slice a3 x.length cap3) w h1 h2)
  have HCL := fun w h1 h2 h3 h4 => hid (sfClear_any s (.slice a0 s.length cap0) p (.slice a1 p.length cap1) b (.slice a2 b.length cap2) d (.slice a5 d.length cap5) u.length w h1 h2 h3 h4)
  have HCV0 := fun c vc w h1 h2 h3 => hid (cvStep_any s (.slice a0 s.length cap0) p (.slice a1 p.length cap1) c vc n w h1 h2 h3)
  have HPS := hid (fun k => Um.pieT_succ s p b n k)
  have HP0 : Hid (Um.pieT s p b n 0 = b) := hid rfl
  have k1 : ((Um.tubeAll s p b u.length).2 != 0) = false := by simpa using ht
  have nn1 : decide (n < 0) = false := decide_eq_false (by omega)
  have nn2 : decide (3 < n) = false := decide_eq_false (by omega)
  have HFB : Hid (folB s p b x u = (decide ((Um.pathAll s p x u).2 = 0) && decide (Um.hasF b x = 0) && hasA b x)) := hid rfl
  clear ht hn j3
  generalize folB s p b x u = FB at *
  generalize Um.tubeAll s p b u.length = TA at *
  generalize Um.pathAll s p x u = PA at *
  generalize Um.hasF b x = HFx at *
  generalize hasA b x = HAx at *
  generalize Um.safeF s p b d u.length = SF at *
  generalize Um.clearB s p b d u.length = CB at *
  have HJ1 := hid j1
  clear j1
  go_enter Try.func8, Try.ntmps8
  go_upto_region 4 with (go_at_call 24; refine (hid (one_any _)).out.mono ?_; rintro e wn ⟨rfl, hb⟩; replace hF := hF.step hb; clear hb; clear y0 y1; have y0 := (hF.below.cell (p := ⟨w.heap.size, 0, none⟩) h1).trans c0; have y1 := (hF.below.cell (p := ⟨w.heap.size, 1, none⟩) h1).trans c1)
  go_upto_region 5 with (go_at_call 18; refine (HRU _ (hF.lf hf2) (hF.ls hp2) (hF.ls hb2)).out.mono ?_; rintro e wn ⟨r1, rfl, htb, hb⟩; replace hF := hF.step hb; clear hb; clear y0 y1; have y0 := (hF.below.cell (p := ⟨w.heap.size, 0, none⟩) h1).trans c0; have y1 := (hF.below.cell (p := ⟨w.heap.size, 1, none⟩) h1).trans c1; obtain ⟨s1, d1, rfl, -⟩ := (id htb); clear HRU)
  go_upto_region 8 with (go_at_call 19; refine (HPA _ (hF.lf hf2) (hF.ls hp2) (hF.li hx2) (hF.ll hu2)).out.mono ?_; rintro e wn ⟨r2, rfl, hpt, hb⟩; replace htb := htb.step hb; replace hF := hF.step hb; clear hb; clear y0 y1; have y0 := (hF.below.cell (p := ⟨w.heap.size, 0, none⟩) h1).trans c0; have y1 := (hF.below.cell (p := ⟨w.heap.size, 1, none⟩) h1).trans c1; obtain ⟨s2, d2, rfl, -⟩ := (id hpt); clear HPA)
  go_upto_region 9 with (go_at_call 12; refine (HHA _ (hF.ls hb2) (hF.li hx2)).out.mono ?_; rintro e wn ⟨rfl, hb⟩; replace htb := htb.step hb; replace hpt := hpt.step hb; replace hF := hF.step hb; clear hb; clear y0 y1; have y0 := (hF.below.cell (p := ⟨w.heap.size, 0, none⟩) h1).trans c0; have y1 := (hF.below.cell (p := ⟨w.heap.size, 1, none⟩) h1).trans c1; clear HHA)
  go_cut [19] from 28 to 70 (fun v w1 => v = .bool FB ∧ w1 = wn)
  case first =>
    clear HCL HCV0 J3 HPZ HBZ HPS HP0 HJ1
    by_cases t1 : PA.2 = 0
    · have g1 : (PA.2 == 0) = true := by simpa using t1
      by_cases t2 : HFx = 0
      · have g2 : (HFx == 0) = true := by simpa using t2
        have e : FB = HAx := by rw [HFB.out, decide_eq_true t1, decide_eq_true t2]; rfl
        clear t1 t2 HFB
        subst e
        go_wp2
        go_meet
        case rel => exact ⟨rfl, rfl⟩
      · have g2 : (HFx == 0) = false := by simpa using t2
        have e : FB = false := by rw [HFB.out, decide_eq_true t1, decide_eq_false t2]; rfl
        clear t1 t2 HFB
        subst e
        go_wp2
        go_meet
        case rel => exact ⟨rfl, rfl⟩
    · have g1 : (PA.2 == 0) = false := by simpa using t1
      have e : FB = false := by rw [HFB.out, decide_eq_false t1]; rfl
      clear t1 HFB
      subst e
      go_wp2
      go_meet
      case rel => exact ⟨rfl, rfl⟩
  case rest =>
    obtain ⟨rfl, rfl⟩ := hcut
    go_upto_region 12 with (go_at_call 22; refine (HCL _ (hF.lf hf2) (hF.ls hp2) (hF.ls hb2) (hF.ls hd2)).out.mono ?_; rintro e wn ⟨rfl, hb⟩; replace htb := htb.step hb; replace hpt := hpt.step hb; replace hF := hF.step hb; clear hb; clear y0 y1; have y0 := (hF.below.cell (p := ⟨w.heap.size, 0, none⟩) h1).trans c0; have y1 := (hF.below.cell (p := ⟨w.heap.size, 1, none⟩) h1).trans c1; clear HCL)
    go_wp2
    have HTB := hid htb
    have HPT := hid hpt
    have HF0 := hid hF
    have hc0 : Ls wn.heap.size wn (.slice a2 b.length cap2) (Um.pieT s p b n 0) := by rw [HP0.out]; exact hF.ls hb2
    clear htb hpt k1 nn1 nn2 HFB HP0
    have hF1 := hF
    clear hF
    go_loopw [20, 23] (fun vc i wq => ∃ k : Nat, k ≤ u.length ∧ i = .int .i64 k ∧ ∃ c0, vc = c0 ∧ Ls wq.heap.size wq c0 (Um.pieT s p b n k) ∧ Fr wn wq []) (fun _ i _ => u.length - (intOf i).toNat)
    case atStart => exact ⟨0, Nat.zero_le _, rfl, _, rfl, hc0, Fr.start wn⟩
    case round =>
      obtain ⟨k, hk, rfl, vc, rfl, hc, hG⟩ := hrel
      by_cases hkl : k < u.length
      · have hkk : (k : Int) < (u.length : Int) := by omega
        have hF : Fr (w.alloc (.cells #[.slice a0 s.length cap0, .slice a1 p.length cap1] 25)) wr [] := ⟨HF0.out.below.trans (hG.below.mono HF0.out.size), by simp, List.Pairwise.nil⟩
        have y0 := (hF.below.cell (p := ⟨w.heap.size, 0, none⟩) h1).trans c0
        have y1 := (hF.below.cell (p := ⟨w.heap.size, 1, none⟩) h1).trans c1
        have hkt : (k : Int) + 1 < (TA.1.length : Int) := by have := HJ1.out; omega
        obtain ⟨b6, o6, c6, e6', -, l6, m6⟩ := ((HTB.out.keep hG.below).wide hG.size).open (by intro e; have := HJ1.out; rw [e] at this; simp at this)
        cases e6'
        obtain ⟨x6, yt, e6⟩ := m6 (k + 1) (by have := HJ1.out; omega)
        obtain ⟨a6, c66, rfl, -⟩ := (id e6)
        obtain ⟨a9, c9, rfl, -⟩ := (id hc)
        have HCV := fun w h1 h2 h3 => HCV0 (Um.pieT s p b n k) (.slice a9 (Um.pieT s p b n k).length c9) w h1 h2 h3
        have q := J3.out k hkl
        rw [← HPS.out k, q.1] at HCV
        have HWI := fun vz w h1 h2 => hid (bwithin_any (Um.pieT s p b n (k + 1)) vz (TA.1[k + 1]?.getD []) (.slice a6 (TA.1[k + 1]?.getD []).length c66) w h1 h2)
        rw [q.2.1, q.2.2] at HWI
        clear q m6 J3 HTB HPS HCV0 HF0 HJ1
        generalize TA.1[k + 1]?.getD [] = tk at *
        cases FB
        · clear HPZ HBZ HPT
          generalize Um.pieT s p b n k = pk at *
          go_wp2_with (first | (go_at_call 9; refine (HCV _ (hF.lf hf2) (hF.ls hp2) hc).out.mono ?_; rintro e wn ⟨r7, rfl, hc7, hb⟩; have yt := (hb.cell (p := ⟨b6, o6 + (k + 1), none⟩) l6).trans yt; replace e6 := e6.step hb; replace l6 := Nat.lt_of_lt_of_le l6 hb.size; replace hG := hG.step hb; replace hF := hF.step hb; clear hb; clear y0 y1; have y0 := (hF.below.cell (p := ⟨w.heap.size, 0, none⟩) h1).trans c0; have y1 := (hF.below.cell (p := ⟨w.heap.size, 1, none⟩) h1).trans c1; obtain ⟨s7, d7, rfl, -⟩ := (id hc7); clear HCV hc) | (go_at_call 11; refine (HWI _ _ hc7 e6).out.mono ?_; rintro e wn ⟨rfl, hb⟩; replace hG := hG.step hb; replace hc7 := hc7.step hb; replace hF := hF.step hb; clear hb; clear y0 y1; have y0 := (hF.below.cell (p := ⟨w.heap.size, 0, none⟩) h1).trans c0; have y1 := (hF.below.cell (p := ⟨w.heap.size, 1, none⟩) h1).trans c1; clear HWI yt e6 l6))
          exact ⟨⟨k + 1, by omega, by simp, _, rfl, hc7, hG⟩, by simp [intOf]; omega⟩
        · obtain ⟨p1, p2⟩ := HPZ.out rfl
          obtain ⟨g1, g2⟩ := p2 k hkl
          have hkp : (k : Int) + 1 < (PA.1.length : Int) := by omega
          obtain ⟨b5, o5, c5, e5', -, l5, m5⟩ := ((HPT.out.keep hG.below).wide hG.size).open (by intro e; rw [e] at p1; simp at p1)
          cases e5'
          obtain ⟨x5, yp, e5⟩ := m5 (k + 1) (by omega)
          obtain ⟨a55, c55, rfl, -⟩ := (id e5)
          have HH1 := fun vz w h1 h2 => hid (bhas_any (Um.pieT s p b n (k + 1)) vz (PA.1[k + 1]?.getD []) (.slice a55 (PA.1[k + 1]?.getD []).length c55) w h1 h2)
          rw [g1, g2] at HH1
          have HB2 : Hid (SF = 0 → Um.hasF d (PA.1[k + 1]?.getD []) = 0 ∧ (CB = true → hasA d (PA.1[k + 1]?.getD []) = false)) := hid fun e => HBZ.out e rfl (k + 1) (by omega)
          have HH2 := fun w h1 h2 => hid (bhas_any d (.slice a5 d.length cap5) (PA.1[k + 1]?.getD []) (.slice a55 (PA.1[k + 1]?.getD []).length c55) w h1 h2)
          clear HPZ HBZ HPT m5 p1 p2 g1 g2
          generalize hasA d (PA.1[k + 1]?.getD []) = TH at *
          generalize Um.hasF d (PA.1[k + 1]?.getD []) = FH at *
          generalize PA.1[k + 1]?.getD [] = qk at *
          generalize Um.pieT s p b n k = pk at *
          by_cases hsf : SF = 0
          · obtain ⟨rfl, t2⟩ := HB2.out hsf
            have kS : (SF != 0) = false := by simpa using hsf
            clear HB2 hsf
            cases CB
            · clear t2
              cases TH
              · go_wp2_with (first | (go_at_call 9; refine (HCV _ (hF.lf hf2) (hF.ls hp2) hc).out.mono ?_; rintro e wn ⟨r7, rfl, hc7, hb⟩; have yp := (hb.cell (p := ⟨b5, o5 + (k + 1), none⟩) l5).trans yp; replace e5 := (e5.keep hb).wide hb.size; replace l5 := Nat.lt_of_lt_of_le l5 hb.size; have yt := (hb.cell (p := ⟨b6, o6 + (k + 1), none⟩) l6).trans yt; replace e6 := e6.step hb; replace l6 := Nat.lt_of_lt_of_le l6 hb.size; replace hG := hG.step hb; replace hF := hF.step hb; clear hb; clear y0 y1; have y0 := (hF.below.cell (p := ⟨w.heap.size, 0, none⟩) h1).trans c0; have y1 := (hF.below.cell (p := ⟨w.heap.size, 1, none⟩) h1).trans c1; obtain ⟨s7, d7, rfl, -⟩ := (id hc7); clear HCV hc) | (go_at_call 11; refine (HWI _ _ hc7 e6).out.mono ?_; rintro e wn ⟨rfl, hb⟩; have yp := (hb.cell (p := ⟨b5, o5 + (k + 1), none⟩) l5).trans yp; replace e5 := (e5.keep hb).wide hb.size; replace l5 := Nat.lt_of_lt_of_le l5 hb.size; replace hG := hG.step hb; replace hc7 := hc7.step hb; replace hF := hF.step hb; clear hb; clear y0 y1; have y0 := (hF.below.cell (p := ⟨w.heap.size, 0, none⟩) h1).trans c0; have y1 := (hF.below.cell (p := ⟨w.heap.size, 1, none⟩) h1).trans c1; clear HWI yt e6 l6) | (go_at_call 12; refine (HH1 _ _ hc7 e5).out.mono ?_; rintro e wn ⟨rfl, hb⟩; have yp := (hb.cell (p := ⟨b5, o5 + (k + 1), none⟩) l5).trans yp; replace e5 := (e5.keep hb).wide hb.size; replace l5 := Nat.lt_of_lt_of_le l5 hb.size; replace hG := hG.step hb; replace hc7 := hc7.step hb; replace hF := hF.step hb; clear hb; clear y0 y1; have y0 := (hF.below.cell (p := ⟨w.heap.size, 0, none⟩) h1).trans c0; have y1 := (hF.below.cell (p := ⟨w.heap.size, 1, none⟩) h1).trans c1; clear HH1) | (go_at_call 12; refine (HH2 _ (hF.ls hd2) e5).out.mono ?_; rintro e wn ⟨rfl, hb⟩; replace hG := hG.step hb; replace hc7 := hc7.step hb; replace hF := hF.step hb; clear hb; clear y0 y1; have y0 := (hF.below.cell (p := ⟨w.heap.size, 0, none⟩) h1).trans c0; have y1 := (hF.below.cell (p := ⟨w.heap.size, 1, none⟩) h1).trans c1; clear HH2 e5 yp l5))
                exact ⟨⟨k + 1, by omega, by simp, _, rfl, hc7, hG⟩, by simp [intOf]; omega⟩
              · go_wp2_with (first | (go_at_call 9; refine (HCV _ (hF.lf hf2) (hF.ls hp2) hc).out.mono ?_; rintro e wn ⟨r7, rfl, hc7, hb⟩; have yp := (hb.cell (p := ⟨b5, o5 + (k + 1), none⟩) l5).trans yp; replace e5 := (e5.keep hb).wide hb.size; replace l5 := Nat.lt_of_lt_of_le l5 hb.size; have yt := (hb.cell (p := ⟨b6, o6 + (k + 1), none⟩) l6).trans yt; replace e6 := e6.step hb; replace l6 := Nat.lt_of_lt_of_le l6 hb.size; replace hG := hG.step hb; replace hF := hF.step hb; clear hb; clear y0 y1; have y0 := (hF.below.cell (p := ⟨w.heap.size, 0, none⟩) h1).trans c0; have y1 := (hF.below.cell (p := ⟨w.heap.size, 1, none⟩) h1).trans c1; obtain ⟨s7, d7, rfl, -⟩ := (id hc7); clear HCV hc) | (go_at_call 11; refine (HWI _ _ hc7 e6).out.mono ?_; rintro e wn ⟨rfl, hb⟩; have yp := (hb.cell (p := ⟨b5, o5 + (k + 1), none⟩) l5).trans yp; replace e5 := (e5.keep hb).wide hb.size; replace l5 := Nat.lt_of_lt_of_le l5 hb.size; replace hG := hG.step hb; replace hc7 := hc7.step hb; replace hF := hF.step hb; clear hb; clear y0 y1; have y0 := (hF.below.cell (p := ⟨w.heap.size, 0, none⟩) h1).trans c0; have y1 := (hF.below.cell (p := ⟨w.heap.size, 1, none⟩) h1).trans c1; clear HWI yt e6 l6) | (go_at_call 12; refine (HH1 _ _ hc7 e5).out.mono ?_; rintro e wn ⟨rfl, hb⟩; have yp := (hb.cell (p := ⟨b5, o5 + (k + 1), none⟩) l5).trans yp; replace e5 := (e5.keep hb).wide hb.size; replace l5 := Nat.lt_of_lt_of_le l5 hb.size; replace hG := hG.step hb; replace hc7 := hc7.step hb; replace hF := hF.step hb; clear hb; clear y0 y1; have y0 := (hF.below.cell (p := ⟨w.heap.size, 0, none⟩) h1).trans c0; have y1 := (hF.below.cell (p := ⟨w.heap.size, 1, none⟩) h1).trans c1; clear HH1) | (go_at_call 12; refine (HH2 _ (hF.ls hd2) e5).out.mono ?_; rintro e wn ⟨rfl, hb⟩; replace hG := hG.step hb; replace hc7 := hc7.step hb; replace hF := hF.step hb; clear hb; clear y0 y1; have y0 := (hF.below.cell (p := ⟨w.heap.size, 0, none⟩) h1).trans c0; have y1 := (hF.below.cell (p := ⟨w.heap.size, 1, none⟩) h1).trans c1; clear HH2 e5 yp l5))
                exact ⟨⟨k + 1, by omega, by simp, _, rfl, hc7, hG⟩, by simp [intOf]; omega⟩
            · obtain rfl := t2 rfl
              clear t2
              go_wp2_with (first | (go_at_call 9; refine (HCV _ (hF.lf hf2) (hF.ls hp2) hc).out.mono ?_; rintro e wn ⟨r7, rfl, hc7, hb⟩; have yp := (hb.cell (p := ⟨b5, o5 + (k + 1), none⟩) l5).trans yp; replace e5 := (e5.keep hb).wide hb.size; replace l5 := Nat.lt_of_lt_of_le l5 hb.size; have yt := (hb.cell (p := ⟨b6, o6 + (k + 1), none⟩) l6).trans yt; replace e6 := e6.step hb; replace l6 := Nat.lt_of_lt_of_le l6 hb.size; replace hG := hG.step hb; replace hF := hF.step hb; clear hb; clear y0 y1; have y0 := (hF.below.cell (p := ⟨w.heap.size, 0, none⟩) h1).trans c0; have y1 := (hF.below.cell (p := ⟨w.heap.size, 1, none⟩) h1).trans c1; obtain ⟨s7, d7, rfl, -⟩ := (id hc7); clear HCV hc) | (go_at_call 11; refine (HWI _ _ hc7 e6).out.mono ?_; rintro e wn ⟨rfl, hb⟩; have yp := (hb.cell (p := ⟨b5, o5 + (k + 1), none⟩) l5).trans yp; replace e5 := (e5.keep hb).wide hb.size; replace l5 := Nat.lt_of_lt_of_le l5 hb.size; replace hG := hG.step hb; replace hc7 := hc7.step hb; replace hF := hF.step hb; clear hb; clear y0 y1; have y0 := (hF.below.cell (p := ⟨w.heap.size, 0, none⟩) h1).trans c0; have y1 := (hF.below.cell (p := ⟨w.heap.size, 1, none⟩) h1).trans c1; clear HWI yt e6 l6) | (go_at_call 12; refine (HH1 _ _ hc7 e5).out.mono ?_; rintro e wn ⟨rfl, hb⟩; have yp := (hb.cell (p := ⟨b5, o5 + (k + 1), none⟩) l5).trans yp; replace e5 := (e5.keep hb).wide hb.size; replace l5 := Nat.lt_of_lt_of_le l5 hb.size; replace hG := hG.step hb; replace hc7 := hc7.step hb; replace hF := hF.step hb; clear hb; clear y0 y1; have y0 := (hF.below.cell (p := ⟨w.heap.size, 0, none⟩) h1).trans c0; have y1 := (hF.below.cell (p := ⟨w.heap.size, 1, none⟩) h1).trans c1; clear HH1) | (go_at_call 12; refine (HH2 _ (hF.ls hd2) e5).out.mono ?_; rintro e wn ⟨rfl, hb⟩; replace hG := hG.step hb; replace hc7 := hc7.step hb; replace hF := hF.step hb; clear hb; clear y0 y1; have y0 := (hF.below.cell (p := ⟨w.heap.size, 0, none⟩) h1).trans c0; have y1 := (hF.below.cell (p := ⟨w.heap.size, 1, none⟩) h1).trans c1; clear HH2 e5 yp l5))
              exact ⟨⟨k + 1, by omega, by simp, _, rfl, hc7, hG⟩, by simp [intOf]; omega⟩
          · have kS : (SF != 0) = true := by simpa using hsf
            clear HB2 hsf HH2
            go_wp2_with (first | (go_at_call 9; refine (HCV _ (hF.lf hf2) (hF.ls hp2) hc).out.mono ?_; rintro e wn ⟨r7, rfl, hc7, hb⟩; have yp := (hb.cell (p := ⟨b5, o5 + (k + 1), none⟩) l5).trans yp; replace e5 := (e5.keep hb).wide hb.size; replace l5 := Nat.lt_of_lt_of_le l5 hb.size; have yt := (hb.cell (p := ⟨b6, o6 + (k + 1), none⟩) l6).trans yt; replace e6 := e6.step hb; replace l6 := Nat.lt_of_lt_of_le l6 hb.size; replace hG := hG.step hb; replace hF := hF.step hb; clear hb; clear y0 y1; have y0 := (hF.below.cell (p := ⟨w.heap.size, 0, none⟩) h1).trans c0; have y1 := (hF.below.cell (p := ⟨w.heap.size, 1, none⟩) h1).trans c1; obtain ⟨s7, d7, rfl, -⟩ := (id hc7); clear HCV hc) | (go_at_call 11; refine (HWI _ _ hc7 e6).out.mono ?_; rintro e wn ⟨rfl, hb⟩; have yp := (hb.cell (p := ⟨b5, o5 + (k + 1), none⟩) l5).trans yp; replace e5 := (e5.keep hb).wide hb.size; replace l5 := Nat.lt_of_lt_of_le l5 hb.size; replace hG := hG.step hb; replace hc7 := hc7.step hb; replace hF := hF.step hb; clear hb; clear y0 y1; have y0 := (hF.below.cell (p := ⟨w.heap.size, 0, none⟩) h1).trans c0; have y1 := (hF.below.cell (p := ⟨w.heap.size, 1, none⟩) h1).trans c1; clear HWI yt e6 l6) | (go_at_call 12; refine (HH1 _ _ hc7 e5).out.mono ?_; rintro e wn ⟨rfl, hb⟩; have yp := (hb.cell (p := ⟨b5, o5 + (k + 1), none⟩) l5).trans yp; replace e5 := (e5.keep hb).wide hb.size; replace l5 := Nat.lt_of_lt_of_le l5 hb.size; replace hG := hG.step hb; replace hc7 := hc7.step hb; replace hF := hF.step hb; clear hb; clear y0 y1; have y0 := (hF.below.cell (p := ⟨w.heap.size, 0, none⟩) h1).trans c0; have y1 := (hF.below.cell (p := ⟨w.heap.size, 1, none⟩) h1).trans c1; clear HH1))
            exact ⟨⟨k + 1, by omega, by simp, _, rfl, hc7, hG⟩, by simp [intOf]; omega⟩
      · obtain rfl : k = u.length := by omega
        have hF : Fr (w.alloc (.cells #[.slice a0 s.length cap0, .slice a1 p.length cap1] 25)) wr [] := ⟨HF0.out.below.trans (hG.below.mono HF0.out.size), by simp, List.Pairwise.nil⟩
        clear J3 HTB HPS HCV0 HF0 HJ1 HPZ HBZ HPT
        go_wp2
        go_returns
        exact ⟨rfl, hBW.trans (hF.below.mono hBW.size)⟩

theorem walk (s : List (List Um.Tm)) (v0 : Value) (p : List (Int × Int)) (v1 : Value) (b : List (Int × Int)) (v : Value) (n : Int) (x : List Int) (t : Value) (u : List (List Int)) (r : Value) (d : List (Int × Int)) (z : Value) (w : World) (hf : Lf w.heap.size w v0 s) (hp : Ls w.heap.size w v1 p) (hs : Ls w.heap.size w v b) (hx : Li w.heap.size w t x) (hu : Ll w.heap.size w r u) (hd : Ls w.heap.size w z d) :
    Calls Try.prog 8 #[.agg #[v0, v1], v, .int .i64 n, t, r, z] w fun e w' => e = .returned (.bool true) ∧ Below w.heap.size w w' := by
  by_cases h : (Um.tubeAll s p b u.length).2 = 0
  · by_cases hn : 0 ≤ n ∧ n ≤ 3
    · exact walk_main s v0 p v1 b v n x t u r d z w hf hp hs hx hu hd h hn
    · exact walk_early s v0 p v1 b v n x t u r d z w hf hp hs hx hu hd (.inr hn)
  · exact walk_early s v0 p v1 b v n x t u r d z w hf hp hs hx hu hd (.inl h)
end Go.Proofs.Ytkeoafbkbblnaaa.TTube
