/-
  What the document's answer (package spanref2) to the bound of a step is: Bound.
-/
import Derived.Test.YtmkdjaafkigemaaDoorRefSteep
import Derived.Test.YtmkdjaafkigemaaDoorRefStep
import Derived.Test.YtmkdjaafkigemaaDoorRefPow
import Derived.Test.YtmkdjaafkigemaaDoorMems2
namespace Um
theorem bnd_bad {s : List (List Tm)} {b : List (Int × Int)} {j : Nat} (hj : j < s.length) (h : ¬ (bsum (nx s j) b b.length).2 = 0) : bndN s b s.length = (0, 4) := by
  by_cases c : (bndN s b j).2 = 0
  · have e : bndN s b (j + 1) = (0, 4) := by rw [bndN_succ, if_pos c, if_neg h]
    exact bndN_stay (i := j + 1) (by rw [e]; decide) hj
  · exact bndN_stay c (Nat.le_of_lt hj)
theorem bnd_big {s : List (List Tm)} {b : List (Int × Int)} {j : Nat} (hj : j < s.length) (h : ¬ may (bsum (nx s j) b b.length).1 = true) : bndN s b s.length = (0, 4) := by
  by_cases c : (bndN s b j).2 = 0
  · by_cases d : (bsum (nx s j) b b.length).2 = 0
    · have e : bndN s b (j + 1) = (0, 4) := by rw [bndN_succ, if_pos c, if_pos d, if_neg h]
      exact bndN_stay (i := j + 1) (by rw [e]; decide) hj
    · exact bnd_bad hj d
  · exact bndN_stay c (Nat.le_of_lt hj)
theorem bnd_more {s : List (List Tm)} {b : List (Int × Int)} {j : Nat} (c : (bndN s b j).2 = 0) (d : (bsum (nx s j) b b.length).2 = 0) (h : may (bsum (nx s j) b b.length).1 = true) : bndN s b (j + 1) = (max (bndN s b j).1 (bsum (nx s j) b b.length).1, 0) := by
  rw [bndN_succ, if_pos c, if_pos d, if_pos h]
theorem bsum_bad1 {f : List Tm} {b : List (Int × Int)} {n : Nat} (hn : n < b.length) (h : ¬ (steepN f n f.length).2 = 0) : ¬ (bsum f b b.length).2 = 0 := by
  have e : bsum f b (n + 1) = (0, 4) := by
    rw [bsum_succ]
    repeat' split
    all_goals first | rfl | contradiction
  rw [bsum_stay (k := n + 1) (by rw [e]; decide) hn]; decide
theorem bsum_bad2 {f : List Tm} {b : List (Int × Int)} {n : Nat} (hn : n < b.length) (h : ¬ (frR (steepN f n f.length).1 b).2.2 = 0) : ¬ (bsum f b b.length).2 = 0 := by
  have e : bsum f b (n + 1) = (0, 4) := by
    rw [bsum_succ]
    repeat' split
    all_goals first | rfl | contradiction
  rw [bsum_stay (k := n + 1) (by rw [e]; decide) hn]; decide
theorem bsum_more {f : List Tm} {b : List (Int × Int)} {n : Nat} (c : (bsum f b n).2 = 0) (h1 : (steepN f n f.length).2 = 0) (h2 : (frR (steepN f n f.length).1 b).2.2 = 0) : bsum f b (n + 1) = ((bsum f b n).1 + (farR (frR (steepN f n f.length).1 b).1 (frR (steepN f n f.length).1 b).2.1).2, 0) := by
  rw [bsum_succ, if_pos c, if_pos h1, if_pos h2]
end Um
namespace Go.Proofs.YtmkdjaafkigemaaDoor
set_option linter.unusedSimpArgs false
open Go.RowKit

set_option maxRecDepth 100000 in
set_option maxHeartbeats 16000000 in
theorem rBound_not (s : List (List Um.Tm)) (v0 : Value) (p : List (Int × Int)) (v1 : Value) (b : List (Int × Int)) (v : Value) (w : World) (hf : Lf w.heap.size w v0 s) (hp : Ls w.heap.size w v1 p) (hs : Ls w.heap.size w v b) (h : ¬ Um.readyF s p b = 0) :
    Calls Tryd.prog 9 #[.agg #[v0, v1], v] w fun e w' => e = .returned (.tuple #[.int .i64 (((0 : Int), Um.readyF s p b)).1, .int .i64 (((0 : Int), Um.readyF s p b)).2]) ∧ Below w.heap.size w w' := by
  obtain ⟨a0, cap0, rfl, -⟩ := (id hf)
  obtain ⟨a1, cap1, rfl, -⟩ := (id hp)
  obtain ⟨a2, cap2, rfl, -⟩ := (id hs)
  have h1 : w.heap.size < (w.alloc (.cells #[.slice a0 s.length cap0, .slice a1 p.length cap1] 26)).heap.size := by simp
  have hBW : Below w.heap.size w (w.alloc (.cells #[.slice a0 s.length cap0, .slice a1 p.length cap1] 26)) := by go_grown
  obtain ⟨c0, c1⟩ := sys_cells w (.slice a0 s.length cap0) (.slice a1 p.length cap1) 26
  have hF := Fr.start (w.alloc (.cells #[.slice a0 s.length cap0, .slice a1 p.length cap1] 26))
  have y0 := c0
  have y1 := c1
  have HRD := fun w hf hp hs => hid (rReady_any s (.slice a0 s.length cap0) p (.slice a1 p.length cap1) b (.slice a2 b.length cap2) w hf hp hs)
  have k : (Um.readyF s p b != 0) = true := by simpa using h
  replace hf := hf.step hBW
  replace hp := hp.step hBW
  replace hs := hs.step hBW
  clear h
  generalize Um.readyF s p b = G at *
  go_enter Tryd.func9, Tryd.ntmps9
  go_wp2_with (go_at_call 18; refine (HRD _ hf hp hs).out.mono ?_; rintro e wn ⟨rfl, hb⟩; replace hF := hF.step hb; replace hs := hs.step hb; clear hb HRD y0 y1 hf hp; skip)
  go_returns
  exact ⟨rfl, hBW.trans (hF.below.mono hBW.size)⟩

set_option maxRecDepth 100000 in
set_option maxHeartbeats 16000000 in
theorem rBound_right (s : List (List Um.Tm)) (v0 : Value) (p : List (Int × Int)) (v1 : Value) (b : List (Int × Int)) (v : Value) (w : World) (hf : Lf w.heap.size w v0 s) (hp : Ls w.heap.size w v1 p) (hs : Ls w.heap.size w v b) (h : Um.readyF s p b = 0) :
    Calls Tryd.prog 9 #[.agg #[v0, v1], v] w fun e w' => e = .returned (.tuple #[.int .i64 (Um.bndN s b s.length).1, .int .i64 (Um.bndN s b s.length).2]) ∧ Below w.heap.size w w' := by
  obtain ⟨hsy, hbx, hlen⟩ := Um.ready_ok.1 h
  obtain ⟨h0, h3, hpl, hforms, -⟩ := Um.sys_ok.1 hsy
  obtain ⟨b1, off1, cap, rfl, hcap, hlt1, hall1⟩ := hf.open h0
  obtain ⟨a1, cap1, rfl, -⟩ := (id hp)
  obtain ⟨a2, cap2, rfl, -⟩ := (id hs)
  have h1 : w.heap.size < (w.alloc (.cells #[.slice (some ⟨b1, off1, none⟩) s.length cap, .slice a1 p.length cap1] 26)).heap.size := by simp
  have hBW : Below w.heap.size w (w.alloc (.cells #[.slice (some ⟨b1, off1, none⟩) s.length cap, .slice a1 p.length cap1] 26)) := by go_grown
  obtain ⟨c0, c1⟩ := sys_cells w (.slice (some ⟨b1, off1, none⟩) s.length cap) (.slice a1 p.length cap1) 26
  have hF := Fr.start (w.alloc (.cells #[.slice (some ⟨b1, off1, none⟩) s.length cap, .slice a1 p.length cap1] 26))
  have y0 := c0
  have y1 := c1
  have HRD := fun w hf hp hs => hid (rReady_any s (.slice (some ⟨b1, off1, none⟩) s.length cap) p (.slice a1 p.length cap1) b (.slice a2 b.length cap2) w hf hp hs)
  have k : (Um.readyF s p b != 0) = false := by simpa using h
  have HU : Hid (∀ j, j < s.length → ∃ u, (w.alloc (.cells #[.slice (some ⟨b1, off1, none⟩) s.length cap, .slice a1 p.length cap1] 26)).cell? ⟨b1, off1 + j, none⟩ = some u ∧ Lt (w.alloc (.cells #[.slice (some ⟨b1, off1, none⟩) s.length cap, .slice a1 p.length cap1] 26)).heap.size (w.alloc (.cells #[.slice (some ⟨b1, off1, none⟩) s.length cap, .slice a1 p.length cap1] 26)) u (Um.nx s j)) := by
    intro j hj
    obtain ⟨u, hu, hl⟩ := hall1 j hj
    exact ⟨u, (hBW.cell (p := ⟨b1, off1 + j, none⟩) hlt1).trans hu, (hl.keep hBW).wide hBW.size⟩
  have hl1 : b1 < (w.alloc (.cells #[.slice (some ⟨b1, off1, none⟩) s.length cap, .slice a1 p.length cap1] 26)).heap.size := Nat.lt_of_lt_of_le hlt1 hBW.size
  have HFO := hid fun j (hj : j < s.length) => (by rw [hlen]; exact hforms _ (Um.nx_mem hj) : Um.formF (Um.nx s j) b.length = 0)
  have hb3 : b.length ≤ 3 := by omega
  have HBX := hid hbx
  replace hf := hf.step hBW
  replace hp := hp.step hBW
  replace hs := hs.step hBW
  have hsX := hs
  clear h hsy hbx hlen hforms hpl hall1
  generalize Um.readyF s p b = G at *
  go_enter Tryd.func9, Tryd.ntmps9
  go_wp2_with (go_at_call 18; refine (HRD _ hf hp hs).out.mono ?_; rintro e wn ⟨rfl, hb⟩; replace hF := hF.step hb; replace hs := hs.step hb; clear hb HRD y0 y1 hf hp; clear hs)
  go_loopw [7, 8] (fun m i wr => ∃ j : Nat, j ≤ s.length ∧ i = .int .i64 j ∧ m = .int .i64 (Um.bndN s b j).1 ∧ Fr (w.alloc (.cells #[.slice (some ⟨b1, off1, none⟩) s.length cap, .slice a1 p.length cap1] 26)) wr [] ∧ Hid ((Um.bndN s b j).2 = 0)) (fun _ i _ => s.length - (intOf i).toNat)
  case atStart => exact ⟨0, Nat.zero_le _, rfl, rfl, hF, rfl⟩
  case round =>
    clear hF
    obtain ⟨j, hj, rfl, rfl, hF, hZ⟩ := hrel
    have y0 := (hF.below.cell (p := ⟨w.heap.size, 0, none⟩) h1).trans c0
    have y1 := (hF.below.cell (p := ⟨w.heap.size, 1, none⟩) h1).trans c1
    by_cases hjl : j < s.length
    · have hjj : (j : Int) < (s.length : Int) := by omega
      obtain ⟨u, hu0, hu1⟩ := HU.out j hjl
      have HF0 := hid (HFO.out j hjl)
      have HBB := fun h => hid (Um.bnd_bad (b := b) hjl h)
      have HBG := fun h => hid (Um.bnd_big (b := b) hjl h)
      have HBM := fun h h2 => hid (Um.bnd_more hZ.out h h2)
      generalize Um.nx s j = f at *
      go_wp2
      clear y0 y1
      go_loopw [9, 10] (fun t i wq => ∃ n : Nat, n ≤ b.length ∧ i = .int .i64 n ∧ t = .int .i64 (Um.bsum f b n).1 ∧ Fr (w.alloc (.cells #[.slice (some ⟨b1, off1, none⟩) s.length cap, .slice a1 p.length cap1] 26)) wq [] ∧ Hid ((Um.bsum f b n).2 = 0)) (fun _ i _ => b.length - (intOf i).toNat)
      case atStart => exact ⟨0, Nat.zero_le _, rfl, rfl, hF, rfl⟩
      case round =>
        clear hF
        obtain ⟨n, hn, rfl, rfl, hF, hY⟩ := hrel
        have y0 := (hF.below.cell (p := ⟨w.heap.size, 0, none⟩) h1).trans c0
        have y1 := (hF.below.cell (p := ⟨w.heap.size, 1, none⟩) h1).trans c1
        by_cases hnl : n < b.length
        · have hnn : (n : Int) < (b.length : Int) := by omega
          have yu := (hF.below.cell (p := ⟨b1, off1 + j, none⟩) hl1).trans hu0
          have HST := fun w hl => hid (rSteep_any f u n w hl (fun i hi => (Um.form_both HF0.out i hi).1) (Um.form_ok.1 HF0.out).2.1 (by omega))
          by_cases hd : (Um.steepN f n f.length).2 = 0
          · have kd : ((Um.steepN f n f.length).2 != 0) = false := by simpa using hd
            have HRA := fun u w hl hs => hid (rFr_any (Um.steepN f n f.length).1 u b (.slice a2 b.length cap2) w hl hs (Um.fr_ok.2 ⟨HBX.out, Um.steep_form HF0.out hd⟩))
            by_cases hr : (Um.frR (Um.steepN f n f.length).1 b).2.2 = 0
            · have kr : ((Um.frR (Um.steepN f n f.length).1 b).2.2 != 0) = false := by simpa using hr
              have HM := hid (Um.bsum_more hY.out hd hr)
              have hc : Um.chk (Um.frR (Um.steepN f n f.length).1 b).1 (Um.frR (Um.steepN f n f.length).1 b).2.1 = 0 := Um.sum_chk (Um.fr_terms (Um.steep_form HF0.out hd)) HBX.out (Nat.le_refl _) hr
              have sm := Um.far_small hc
              have sb := Um.bsum_small HF0.out HBX.out hY.out
              obtain ⟨m1, m2, m3⟩ := Um.chk_ok.1 hc
              obtain ⟨a3, a4⟩ := (Um.may_iff _).1 m1
              obtain ⟨a5, a6⟩ := (Um.may_iff _).1 m2
              have HFA := fun w => hid (rFar_any (Um.frR (Um.steepN f n f.length).1 b).1 (Um.frR (Um.steepN f n f.length).1 b).2.1 w a3 a4 a5 a6 m3)
              have hwr : IntKind.i64.wrap ((Um.bsum f b n).1 + (Um.farR (Um.frR (Um.steepN f n f.length).1 b).1 (Um.frR (Um.steepN f n f.length).1 b).2.1).2) = (Um.bsum f b n).1 + (Um.farR (Um.frR (Um.steepN f n f.length).1 b).1 (Um.frR (Um.steepN f n f.length).1 b).2.1).2 := by rw [IntKind.wrap_i64]; omega
              clear hc sm sb m1 m2 m3 a3 a4 a5 a6 hd hr HBB HBG HBM
              generalize Um.frR (Um.steepN f n f.length).1 b = R at *
              generalize Um.steepN f n f.length = D at *
              go_wp2_with (first | (go_at_call 5; refine (HST _ (hF.lt hu1)).out.mono ?_; rintro e wn ⟨r, rfl, hq, hb⟩; replace hF := hF.step hb; clear hb HST) | (go_at_call 19; refine (HRA _ _ hq (hF.ls hsX)).out.mono ?_; rintro e wn ⟨rfl, hb⟩; replace hF := hF.step hb; clear hb HRA hq; replace hF := hF.push R.1 R.2.1 rfl; have x0l := (hF.at 0 rfl).lo; have x0h := (hF.at 0 rfl).hi) | (go_at_call 20; refine (HFA _).out.mono ?_; rintro e wn ⟨rfl, rfl⟩; replace hF := (hF.alloc (.cells #[.int .i64 R.1, .int .i64 R.2.1] 55)).alloc (.cells #[.int .i64 R.1, .int .i64 R.2.1] 55)))
              exact ⟨⟨n + 1, by omega, by simp, by rw [HM.out], hF.drop, by rw [HM.out]; exact hid rfl⟩, by simp [intOf]; omega⟩
            · have kr : ((Um.frR (Um.steepN f n f.length).1 b).2.2 != 0) = true := by simpa using hr
              have HM := HBB (Um.bsum_bad2 hnl hr)
              have HE : Hid (Um.frR (Um.steepN f n f.length).1 b = (0, 0, 4)) := hid ((Um.sum_fault (Um.steepN f n f.length).1 b (Um.steepN f n f.length).1.length).resolve_left hr)
              clear hd hr HBB HBG HBM
              generalize Um.frR (Um.steepN f n f.length).1 b = R at *
              generalize Um.steepN f n f.length = D at *
              go_wp2_with (first | (go_at_call 5; refine (HST _ (hF.lt hu1)).out.mono ?_; rintro e wn ⟨r, rfl, hq, hb⟩; replace hF := hF.step hb; clear hb HST) | (go_at_call 19; refine (HRA _ _ hq (hF.ls hsX)).out.mono ?_; rintro e wn ⟨rfl, hb⟩; replace hF := hF.step hb; clear hb HRA hq; replace hF := hF.push R.1 R.2.1 rfl))
              go_returns
              refine ⟨?_, hBW.trans (hF.below.mono hBW.size)⟩
              rw [HM.out, HE.out]
              rfl
          · have kd : ((Um.steepN f n f.length).2 != 0) = true := by simpa using hd
            have HM := HBB (Um.bsum_bad1 hnl hd)
            have HE := hid ((Um.steep_fault f n f.length).resolve_left hd)
            clear hd HBB HBG HBM
            generalize Um.steepN f n f.length = D at *
            go_wp2_with (go_at_call 5; refine (HST _ (hF.lt hu1)).out.mono ?_; rintro e wn ⟨r, rfl, hq, hb⟩; replace hF := hF.step hb; clear hb HST)
            go_returns
            rw [HM.out, HE.out]
            exact ⟨rfl, hBW.trans (hF.below.mono hBW.size)⟩
        · obtain rfl : n = b.length := by omega
          by_cases hm : Um.may (Um.bsum f b b.length).1 = true
          · have HN := HBM hY.out hm
            have cm : Um.may (Um.bsum f b b.length).1 = true := hm
            clear HBB HBG HBM hm
            by_cases hg : (Um.bndN s b j).1 < (Um.bsum f b b.length).1
            · have cg : decide ((Um.bndN s b j).1 < (Um.bsum f b b.length).1) = true := decide_eq_true hg
              have HX : Hid (max (Um.bndN s b j).1 (Um.bsum f b b.length).1 = (Um.bsum f b b.length).1) := hid (by omega)
              clear hg
              go_wp2_with (go_at_call 14; refine (rMay_any _ _).mono ?_; rintro e wm ⟨rfl, hq⟩; subst wm)
              exact ⟨⟨j + 1, by omega, by simp, by rw [HN.out, HX.out], hF, by rw [HN.out]; exact hid rfl⟩, by simp [intOf]; omega⟩
            · have cg : decide ((Um.bndN s b j).1 < (Um.bsum f b b.length).1) = false := decide_eq_false hg
              have HX : Hid (max (Um.bndN s b j).1 (Um.bsum f b b.length).1 = (Um.bndN s b j).1) := hid (by omega)
              clear hg
              go_wp2_with (go_at_call 14; refine (rMay_any _ _).mono ?_; rintro e wm ⟨rfl, hq⟩; subst wm)
              exact ⟨⟨j + 1, by omega, by simp, by rw [HN.out, HX.out], hF, by rw [HN.out]; exact hid rfl⟩, by simp [intOf]; omega⟩
          · have HM := HBG hm
            have cm : Um.may (Um.bsum f b b.length).1 = false := by simpa using hm
            clear HBB HBG HBM hm
            go_wp2_with (go_at_call 14; refine (rMay_any _ _).mono ?_; rintro e wm ⟨rfl, hq⟩; subst wm)
            go_returns
            rw [HM.out]
            exact ⟨rfl, hBW.trans (hF.below.mono hBW.size)⟩
    · obtain rfl : j = s.length := by omega
      have HZ := hid hZ.out
      clear HU HFO
      go_wp2
      go_returns
      rw [HZ.out]
      exact ⟨rfl, hBW.trans (hF.below.mono hBW.size)⟩

theorem rBound_any (s : List (List Um.Tm)) (v0 : Value) (p : List (Int × Int)) (v1 : Value) (b : List (Int × Int)) (v : Value) (w : World) (hf : Lf w.heap.size w v0 s) (hp : Ls w.heap.size w v1 p) (hs : Ls w.heap.size w v b) :
    Calls Tryd.prog 9 #[.agg #[v0, v1], v] w fun e w' => e = .returned (.tuple #[.int .i64 (Um.bndAll s p b).1, .int .i64 (Um.bndAll s p b).2]) ∧ Below w.heap.size w w' := by
  by_cases h : Um.readyF s p b = 0
  · rw [Um.bndAll_yes h]
    exact rBound_right s v0 p v1 b v w hf hp hs h
  · rw [Um.bndAll_not h]
    exact rBound_not s v0 p v1 b v w hf hp hs h
end Go.Proofs.YtmkdjaafkigemaaDoor
