/-
  The walk over 'spanlaw2.StepTells': for all s, b, x, push it returns true.
-/
import Derived.Test.YtmgabhphnafokaaDoorStep
import Derived.Test.YtmgabhphnafokaaDoorRefNext
import Derived.Test.YtmgabhphnafokaaDoorRefMove
import Derived.Test.YtmgabhphnafokaaDoorSame
import Derived.Deep.CutRange
namespace Go.Proofs.YtmgabhphnafokaaDoor.StTells
set_option linter.unusedSimpArgs false
open Go.RowKit

set_option maxRecDepth 100000 in
set_option maxHeartbeats 16000000 in
theorem walk (s : List (List Um.Tm)) (v0 : Value) (p : List (Int × Int)) (v1 : Value) (b : List (Int × Int)) (v : Value) (x : List Int) (t : Value) (q : List Int) (r : Value) (w : World) (hg : HasErr w) (hf : Lf w.heap.size w v0 s) (hp : Ls w.heap.size w v1 p) (hs : Ls w.heap.size w v b) (hx : Li w.heap.size w t x) (hq : Li w.heap.size w r q) :
    Calls Tryd.prog 6 #[.agg #[v0, v1], v, t, r] w fun e w' => e = .returned (.bool true) ∧ Below w.heap.size w w' := by
  have v0 := errV_none
  have q1 := errG
  have q2 := errGn
  have q3 := errE
  have q4 := errN
  have hmx : Tryd.prog.follows .mixedOrders = true := by kernel_rfl
  obtain ⟨a0, cap0, rfl, -⟩ := (id hf)
  obtain ⟨a1, cap1, rfl, -⟩ := (id hp)
  obtain ⟨a2, cap2, rfl, -⟩ := (id hs)
  obtain ⟨a3, cap3, rfl, -⟩ := (id hx)
  obtain ⟨a4, cap4, rfl, -⟩ := (id hq)
  have h1 : w.heap.size < (w.alloc (.cells #[.slice a0 s.length cap0, .slice a1 p.length cap1] 62)).heap.size := by simp
  have hBW : Below w.heap.size w (w.alloc (.cells #[.slice a0 s.length cap0, .slice a1 p.length cap1] 62)) := by go_grown
  obtain ⟨c0, c1⟩ := sys_cells w (.slice a0 s.length cap0) (.slice a1 p.length cap1) 62
  have hlw := h1
  have hf2 := hf.step hBW
  have hp2 := hp.step hBW
  have hb2 := hs.step hBW
  have hx2 := (hx.keep hBW).wide hBW.size
  have hq2 := (hq.keep hBW).wide hBW.size
  have HCK := fun w h1 h2 => hid (scheck_any s (.slice a0 s.length cap0) p (.slice a1 p.length cap1) w h1 h2)
  have HSY := fun w h1 h2 => hid (rSystem_any s (.slice a0 s.length cap0) p (.slice a1 p.length cap1) w h1 h2)
  have HRD := fun w h1 h2 h3 => hid (rReady_any s (.slice a0 s.length cap0) p (.slice a1 p.length cap1) b (.slice a2 b.length cap2) w h1 h2 h3)
  have HNX0 := fun e w h1 h2 h3 => hid (rNext_any s (.slice a0 s.length cap0) p (.slice a1 p.length cap1) b (.slice a2 b.length cap2) w h1 h2 h3 e)
  have HOF := fun w h1 h2 h3 => hid (sof_any s (.slice a0 s.length cap0) p (.slice a1 p.length cap1) b (.slice a2 b.length cap2) w h1 h2 h3)
  have HMV := fun w h1 h2 h3 h4 => hid (rMove_any s (.slice a0 s.length cap0) p (.slice a1 p.length cap1) x (.slice a3 x.length cap3) q (.slice a4 q.length cap4) w h1 h2 h3 h4)
  have HPT := fun w h1 h2 h3 h4 => hid (spoint_any s (.slice a0 s.length cap0) p (.slice a1 p.length cap1) x (.slice a3 x.length cap3) q (.slice a4 q.length cap4) w h1 h2 h3 h4)
  have HOL := hid (Um.ofAll_most s p b)
  have HML := hid (Um.movAll_five s p x q)
  have E1 : Hid (Um.readyF s p b = 0 → Um.ofAll s p b = Um.behR s p b) := Um.ofAll_yes
  have E2 : Hid (¬ Um.readyF s p b = 0 → Um.ofAll s p b = ([], Um.readyF s p b)) := Um.ofAll_not
  have E3 : Hid (¬ (Um.movAll s p x q).2 = 0 → (Um.movAll s p x q).1 = []) := Um.movAll_none
  clear hf hp hs hx hq
  generalize Um.sysF s p = G at *
  generalize Um.readyF s p b = RF at *
  generalize Um.behR s p b = BR at *
  generalize Um.ofAll s p b = O at *
  generalize Um.movAll s p x q = M at *
  have y0 := c0
  have y1 := c1
  go_enter Tryd.func6, Tryd.ntmps6
  go_wp2
  generalize hWX : (w.alloc (.cells #[.slice a0 s.length cap0, .slice a1 p.length cap1] 62)) = WX at *
  have HWX := hid hWX
  clear hWX
  obtain ⟨Inv, hInv⟩ : ∃ Inv : Array Bool → Act → World → Prop, ∀ listed aq W', Inv listed aq W' ↔ (∃ v18 v19 v20 v21 v22 v9 : Value, aq = { tmps := #[Value.agg #[Value.slice a0 s.length cap0, Value.slice a1 p.length cap1], Value.slice a2 b.length cap2, Value.slice a3 x.length cap3, Value.slice a4 q.length cap4, Value.pointer (some { block := w.heap.size, off := 0 }), undef, undef, undef, Value.bool false, v9, undef, undef, undef, undef, undef, undef, undef, undef, v18, v19, v20, v21, v22, undef, undef, undef, undef, undef, undef, undef, undef, undef, undef, undef, undef, undef, undef, undef, undef, undef, undef, undef, undef, undef, undef, undef, undef, undef, undef, undef, undef, undef, undef, undef, undef, undef, undef, undef, undef, undef, undef, undef, undef, undef, undef, undef, undef, undef, undef, undef, undef, undef, undef, undef, undef, undef, undef, undef, undef], defers := [] } ∧ Below (WX).heap.size (WX) W' ∧ (listed.getD 0 false = true → v18 = .agg #[.slice a0 s.length cap0, .slice a1 p.length cap1]) ∧ (listed.getD 1 false = true → v19 = errV G) ∧ (listed.getD 2 false = true → v20 = .agg #[.slice a0 s.length cap0, .slice a1 p.length cap1]) ∧ (listed.getD 3 false = true → v21 = .int .i64 G) ∧ (listed.getD 4 false = true → v22 = .bool true) ∧ (listed.getD 5 false = true → v9 = .bool true)) := ⟨_, fun _ _ _ => Iff.rfl⟩
  have HI := hid hInv
  clear hInv
  refine Free.region hmx (by kernel_rfl) Inv ?s1 ?s2 ?s3
  case s1 =>
    exact (HI.out _ _ _).2 ⟨undef, undef, undef, undef, undef, undef, rfl, (Below.refl _ _).drew, Free.not_yet, Free.not_yet, Free.not_yet, Free.not_yet, Free.not_yet, Free.not_yet⟩
  case s2 =>
    intro i listed aq W1 hix hne hnl hsz hv
    obtain ⟨v18, v19, v20, v21, v22, v9, rfl, hW, l0, l1, l2, l3, l4, l5⟩ := (HI.out _ _ _).1 hv
    clear hv
    replace hix : i < 6 := hix
    replace hsz : listed.size = 6 := hsz
    rcases (by omega : i = 0 ∨ i = 1 ∨ i = 2 ∨ i = 3 ∨ i = 4 ∨ i = 5) with rfl | rfl | rfl | rfl | rfl | rfl
    · have z0 := (hW.cell (p := ⟨w.heap.size, 0, none⟩) hlw).trans y0
      have z1 := (hW.cell (p := ⟨w.heap.size, 1, none⟩) hlw).trans y1
      refine Free.op rfl rfl (fun K hK => ?_)
      go_simp
      exact hK _ _ ((HI.out _ _ _).2 ⟨_, v19, v20, v21, v22, v9, rfl, hW, fun _ => rfl, Free.of_set (by decide) l1, Free.of_set (by decide) l2, Free.of_set (by decide) l3, Free.of_set (by decide) l4, Free.of_set (by decide) l5⟩)
    · refine Free.op rfl rfl (fun K hK => ?_)
      obtain rfl := l0 (hne 0 (by kernel_rfl))
      go_wp2_with (go_at_call 29; refine (HCK _ (hf2.step hW) (hp2.step hW)).out.mono ?_; rintro e W3 ⟨rfl, hb⟩)
      exact (HI.out _ _ _).2 ⟨_, _, v20, v21, v22, v9, rfl, hW.trans (hb.mono hW.size), fun _ => rfl, fun _ => rfl, Free.of_set (by decide) l2, Free.of_set (by decide) l3, Free.of_set (by decide) l4, Free.of_set (by decide) l5⟩
    · have z0 := (hW.cell (p := ⟨w.heap.size, 0, none⟩) hlw).trans y0
      have z1 := (hW.cell (p := ⟨w.heap.size, 1, none⟩) hlw).trans y1
      refine Free.op rfl rfl (fun K hK => ?_)
      go_simp
      exact hK _ _ ((HI.out _ _ _).2 ⟨v18, v19, _, v21, v22, v9, rfl, hW, Free.of_set (by decide) l0, Free.of_set (by decide) l1, fun _ => rfl, Free.of_set (by decide) l3, Free.of_set (by decide) l4, Free.of_set (by decide) l5⟩)
    · refine Free.op rfl rfl (fun K hK => ?_)
      obtain rfl := l2 (hne 2 (by kernel_rfl))
      go_wp2_with (go_at_call 30; refine (HSY _ (hf2.step hW) (hp2.step hW)).out.mono ?_; rintro e W3 ⟨rfl, hb⟩)
      exact (HI.out _ _ _).2 ⟨v18, v19, _, _, v22, v9, rfl, hW.trans (hb.mono hW.size), Free.of_set (by decide) l0, Free.of_set (by decide) l1, fun _ => rfl, fun _ => rfl, Free.of_set (by decide) l4, Free.of_set (by decide) l5⟩
    · refine Free.op rfl rfl (fun K hK => ?_)
      obtain rfl := l1 (hne 1 (by kernel_rfl))
      obtain rfl := l3 (hne 3 (by kernel_rfl))
      go_wp2_with (go_at_call 8; refine (same_any _ _ _ (hg.below (B := w.heap.size) (hBW.trans (hW.mono hBW.size)) hg.size)).mono ?_; rintro e W3 ⟨rfl, hb⟩)
      exact (HI.out _ _ _).2 ⟨v18, _, v20, _, _, v9, rfl, hW.trans (hb.mono hW.size), Free.of_set (by decide) l0, fun _ => rfl, Free.of_set (by decide) l2, fun _ => rfl, fun _ => rfl, Free.of_set (by decide) l5⟩
    · refine Free.op rfl rfl (fun K hK => ?_)
      obtain rfl := l4 (hne 4 (by kernel_rfl))
      go_simp
      exact hK _ _ ((HI.out _ _ _).2 ⟨v18, v19, v20, v21, _, _, rfl, hW, Free.of_set (by decide) l0, Free.of_set (by decide) l1, Free.of_set (by decide) l2, Free.of_set (by decide) l3, fun _ => rfl, fun _ => rfl⟩)
  case s3 =>
    intro listed aq W1 hall hsz hv
    obtain ⟨v18, v19, v20, v21, v22, v9, rfl, hW, l0, l1, l2, l3, l4, l5⟩ := (HI.out _ _ _).1 hv
    clear hv HI
    obtain rfl := l0 (Free.listed_of hall hsz 0 (by decide))
    obtain rfl := l1 (Free.listed_of hall hsz 1 (by decide))
    obtain rfl := l2 (Free.listed_of hall hsz 2 (by decide))
    obtain rfl := l3 (Free.listed_of hall hsz 3 (by decide))
    obtain rfl := l4 (Free.listed_of hall hsz 4 (by decide))
    obtain rfl := l5 (Free.listed_of hall hsz 5 (by decide))
    clear hall hsz
    have hF := (Fr.start WX).step hW
    clear hW HCK HSY y0 y1
    have y0 := (hF.below.cell (p := ⟨w.heap.size, 0, none⟩) h1).trans c0
    have y1 := (hF.below.cell (p := ⟨w.heap.size, 1, none⟩) h1).trans c1
    go_upto_if 27 with (go_at_call 31; refine (HRD _ (hF.lf hf2) (hF.ls hp2) (hF.ls hb2)).out.mono ?_; rintro e wn ⟨rfl, hb⟩; replace hF := hF.step hb; clear hb; clear y0 y1; have y0 := (hF.below.cell (p := ⟨w.heap.size, 0, none⟩) h1).trans c0; have y1 := (hF.below.cell (p := ⟨w.heap.size, 1, none⟩) h1).trans c1; clear HRD)
    go_cut [10, 11] from 18 to 33 (fun e r w1 => e = .int .i64 O.2 ∧ Fr WX w1 [] ∧ ∃ a5 cap5, r = .slice a5 O.1.length cap5 ∧ Ls w1.heap.size w1 (.slice a5 O.1.length cap5) O.1)
    case first =>
      clear HOF HMV HPT HOL HML E3
      by_cases h : RF = 0
      · have e1 := E1.out h
        have HNX := fun w h1 h2 h3 => HNX0 h w h1 h2 h3
        have k : (RF == 0) = true := by simpa using h
        clear E1 E2 h HNX0
        subst e1
        go_wp2_with (go_at_call 32; refine (HNX _ (hF.lf hf2) (hF.ls hp2) (hF.ls hb2)).out.mono ?_; rintro e wn ⟨r1, rfl, hw, hb⟩; replace hF := hF.step hb; clear hb; clear y0 y1; have y0 := (hF.below.cell (p := ⟨w.heap.size, 0, none⟩) h1).trans c0; have y1 := (hF.below.cell (p := ⟨w.heap.size, 1, none⟩) h1).trans c1; obtain ⟨s1, d1, rfl, -⟩ := (id hw))
        go_meet
        case rel => exact ⟨rfl, hF, _, _, rfl, hw⟩
      · have e1 := E2.out h
        have k : (RF == 0) = false := by simpa using h
        clear E1 E2 h HNX0
        subst e1
        go_wp2
        go_meet
        case rel => exact ⟨rfl, hF, none, 0, rfl, Ls.nil _ _⟩
    case rest =>
      clear hF HNX0 E1 E2 y0 y1
      obtain ⟨rfl, hF, a5, cap5, rfl, hw⟩ := hcut
      have y0 := (hF.below.cell (p := ⟨w.heap.size, 0, none⟩) h1).trans c0
      have y1 := (hF.below.cell (p := ⟨w.heap.size, 1, none⟩) h1).trans c1
      go_upto_region 7 with (go_at_call 33; refine (HOF _ (hF.lf hf2) (hF.ls hp2) (hF.ls hb2)).out.mono ?_; rintro e wn ⟨r2, rfl, hh, hb⟩; replace hw := hw.step hb; replace hF := hF.step hb; clear hb; clear y0 y1; have y0 := (hF.below.cell (p := ⟨w.heap.size, 0, none⟩) h1).trans c0; have y1 := (hF.below.cell (p := ⟨w.heap.size, 1, none⟩) h1).trans c1; obtain ⟨s2, d2, rfl, -⟩ := (id hh); clear HOF)
      go_upto_region 8 with (first | (go_at_call 8; refine (hid (same_any _ _ _ (hg.below (B := w.heap.size) (hBW.trans (hF.below.mono hBW.size)) hg.size))).out.mono ?_; rintro e wn ⟨rfl, hb⟩; replace hw := hw.step hb; replace hh := hh.step hb; replace hF := hF.step hb; clear hb; clear y0 y1; have y0 := (hF.below.cell (p := ⟨w.heap.size, 0, none⟩) h1).trans c0; have y1 := (hF.below.cell (p := ⟨w.heap.size, 1, none⟩) h1).trans c1) | (go_at_call 17; refine (hid (box_same O.1 _ _ _ hh hw HOL.out)).out.mono ?_; rintro e wn ⟨rfl, hb⟩; replace hF := hF.step hb; clear hb; clear y0 y1; have y0 := (hF.below.cell (p := ⟨w.heap.size, 0, none⟩) h1).trans c0; have y1 := (hF.below.cell (p := ⟨w.heap.size, 1, none⟩) h1).trans c1; clear hh hw))
      go_upto_if 56 with (go_at_call 34; refine (HMV _ (hF.lf hf2) (hF.ls hp2) (hF.li hx2) (hF.li hq2)).out.mono ?_; rintro e wn ⟨r3, rfl, hw, hb⟩; replace hF := hF.step hb; clear hb; clear y0 y1; have y0 := (hF.below.cell (p := ⟨w.heap.size, 0, none⟩) h1).trans c0; have y1 := (hF.below.cell (p := ⟨w.heap.size, 1, none⟩) h1).trans c1; obtain ⟨s3, d3, rfl, -⟩ := (id hw); clear HMV)
      go_cut [15] from 34 to 56 (fun r w1 => Fr WX w1 [] ∧ ∃ a6 cap6, r = .slice a6 M.1.length cap6 ∧ Li w1.heap.size w1 (.slice a6 M.1.length cap6) M.1)
      case first =>
        clear HPT HOL HML
        by_cases h : M.2 = 0
        · have k : (M.2 != 0) = false := by simpa using h
          clear E3 h
          go_wp2
          go_meet
          case rel => exact ⟨hF, _, _, rfl, hw⟩
        · have e1 := E3.out h
          have k : (M.2 != 0) = true := by simpa using h
          clear E3 h
          go_wp2
          go_meet
          case rel => exact ⟨hF, none, 0, by rw [e1]; rfl, by rw [e1]; exact Li.nil _ _⟩
      case rest =>
        clear hF E3 y0 y1 hw
        obtain ⟨hF, a6, cap6, rfl, hw⟩ := hcut
        have y0 := (hF.below.cell (p := ⟨w.heap.size, 0, none⟩) h1).trans c0
        have y1 := (hF.below.cell (p := ⟨w.heap.size, 1, none⟩) h1).trans c1
        go_upto_region 12 with (go_at_call 35; refine (HPT _ (hF.lf hf2) (hF.ls hp2) (hF.li hx2) (hF.li hq2)).out.mono ?_; rintro e wn ⟨r4, rfl, hh, hb⟩; replace hw := (hw.keep hb).wide hb.size; replace hF := hF.step hb; clear hb; clear y0 y1; have y0 := (hF.below.cell (p := ⟨w.heap.size, 0, none⟩) h1).trans c0; have y1 := (hF.below.cell (p := ⟨w.heap.size, 1, none⟩) h1).trans c1; obtain ⟨s4, d4, rfl, -⟩ := (id hh); clear HPT)
        go_wp2_with (first | (go_at_call 8; refine (hid (same_any _ _ _ (hg.below (B := w.heap.size) (hBW.trans (hF.below.mono hBW.size)) hg.size))).out.mono ?_; rintro e wn ⟨rfl, hb⟩; replace hw := (hw.keep hb).wide hb.size; replace hh := (hh.keep hb).wide hb.size; replace hF := hF.step hb; clear hb; clear y0 y1; have y0 := (hF.below.cell (p := ⟨w.heap.size, 0, none⟩) h1).trans c0; have y1 := (hF.below.cell (p := ⟨w.heap.size, 1, none⟩) h1).trans c1) | (go_at_call 36; refine (hid (rInts_same M.1 _ _ _ hh hw HML.out)).out.mono ?_; rintro e wn ⟨rfl, hb⟩; replace hF := hF.step hb; clear hb; clear y0 y1; have y0 := (hF.below.cell (p := ⟨w.heap.size, 0, none⟩) h1).trans c0; have y1 := (hF.below.cell (p := ⟨w.heap.size, 1, none⟩) h1).trans c1; clear hh hw))
        go_returns
        exact ⟨rfl, hBW.trans (hF.below.mono hBW.size)⟩

end Go.Proofs.YtmgabhphnafokaaDoor.StTells
