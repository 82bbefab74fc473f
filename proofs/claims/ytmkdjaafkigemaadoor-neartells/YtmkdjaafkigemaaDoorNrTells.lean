/-
  The walk over 'spanlaw2.NearTells': for all f, sides, by, s, b it returns true.
-/
import Derived.Test.YtmkdjaafkigemaaDoorNear
import Derived.Test.YtmkdjaafkigemaaDoorRefBound
import Derived.Test.YtmkdjaafkigemaaDoorRefNext
import Derived.Test.YtmkdjaafkigemaaDoorRefBox
import Derived.Test.YtmkdjaafkigemaaDoorFormSame
import Derived.Test.YtmkdjaafkigemaaDoorSame
import Derived.Deep.CutRange
namespace Go.Proofs.YtmkdjaafkigemaaDoor.NrTells
set_option linter.unusedSimpArgs false
open Go.RowKit

theorem rSteepAll {f : List Um.Tm} {u : Value} {sides k : Int} {w : World} (hl : Lt w.heap.size w u f) (h : Um.formF f sides = 0) (hk : 0 ≤ k ∧ k < sides) :
    Calls Tryd.prog 5 #[u, .int .i64 k] w fun e w' => ∃ r, e = .returned (.tuple #[r, .int .i64 (Um.steepAll f sides k).2]) ∧ Lt w'.heap.size w' r (Um.steepAll f sides k).1 ∧ Below w.heap.size w w' := by
  obtain ⟨n, rfl⟩ := Int.eq_ofNat_of_zero_le hk.1
  have h3 := (Um.form_ok.1 h).1
  rw [Um.steepAll_yes h hk]
  exact rSteep_any f u n w hl (fun i hi => (Um.form_both h i hi).1) (Um.form_ok.1 h).2.1 (by omega)
theorem steepAll_small (f : List Um.Tm) (sides k : Int) : (Um.steepAll f sides k).1.length ≤ 1000 := by
  unfold Um.steepAll
  split
  · rename_i h
    split
    · have := Um.steep_len f k.toNat f.length
      have := (Um.form_ok.1 h).2.1
      omega
    · simp
  · simp
theorem pull_fault {s : List (List Um.Tm)} {p b : List (Int × Int)} (h : (Um.bndAll s p b).2 = 0) : (Um.pullAll s p b).2 = (Um.ofAll s p b).2 := by
  by_cases c : (Um.ofAll s p b).2 = 0
  · rw [Um.pull_yes h c, c]
  · rw [Um.pull_next h c]

set_option maxRecDepth 100000 in
set_option maxHeartbeats 32000000 in
theorem walk (f : List Um.Tm) (u : Value) (sides k : Int) (s : List (List Um.Tm)) (v0 : Value) (p : List (Int × Int)) (v1 : Value) (b : List (Int × Int)) (v : Value) (w : World) (hg : HasErr w) (hl : Lt w.heap.size w u f) (hf : Lf w.heap.size w v0 s) (hp : Ls w.heap.size w v1 p) (hs : Ls w.heap.size w v b) :
    Calls Tryd.prog 3 #[u, .int .i64 sides, .int .i64 k, .agg #[v0, v1], v] w fun e w' => e = .returned (.bool true) ∧ Below w.heap.size w w' := by
  have v0 := errV_none
  have q1 := errG
  have q2 := errGn
  have q3 := errE
  have q4 := errN
  obtain ⟨a0, cap0, rfl, -⟩ := (id hf)
  obtain ⟨a1, cap1, rfl, -⟩ := (id hp)
  obtain ⟨a2, cap2, rfl, -⟩ := (id hs)
  obtain ⟨a3, cap3, rfl, -⟩ := (id hl)
  have h1 : w.heap.size < (w.alloc (.cells #[.slice a0 s.length cap0, .slice a1 p.length cap1] 26)).heap.size := by simp
  have hBW : Below w.heap.size w (w.alloc (.cells #[.slice a0 s.length cap0, .slice a1 p.length cap1] 26)) := by go_grown
  obtain ⟨c0, c1⟩ := sys_cells w (.slice a0 s.length cap0) (.slice a1 p.length cap1) 26
  have hF := Fr.start (w.alloc (.cells #[.slice a0 s.length cap0, .slice a1 p.length cap1] 26))
  have hl2 := hl.step hBW
  have hf2 := hf.step hBW
  have hp2 := hp.step hBW
  have hb2 := hs.step hBW
  have HFO := fun w h1 => hid (rForm_any f sides (.slice a3 f.length cap3) w h1)
  have HRT := hid (fun (h : Um.formF f sides = 0) (hk : 0 ≤ k ∧ k < sides) w (hl : Lt w.heap.size w (.slice a3 f.length cap3) f) => rSteepAll hl h hk)
  have HNS := fun w h1 => hid (nrSteep_any f (.slice a3 f.length cap3) sides k w h1)
  have HRB := fun w h1 h2 h3 => hid (rBound_any s (.slice a0 s.length cap0) p (.slice a1 p.length cap1) b (.slice a2 b.length cap2) w h1 h2 h3)
  have HNB := fun w h1 h2 h3 => hid (nrBound_any s (.slice a0 s.length cap0) p (.slice a1 p.length cap1) b (.slice a2 b.length cap2) w h1 h2 h3)
  have HNP := fun w h1 h2 h3 => hid (nrPull_any s (.slice a0 s.length cap0) p (.slice a1 p.length cap1) b (.slice a2 b.length cap2) w h1 h2 h3)
  have HNN := hid (fun (h : Um.readyF s p b = 0) w h1 h2 h3 => rNext_any s (.slice a0 s.length cap0) p (.slice a1 p.length cap1) b (.slice a2 b.length cap2) w h1 h2 h3 h)
  have HLN := hid (steepAll_small f sides k)
  clear hf hp hs hl
  have y0 := c0
  have y1 := c1
  obtain ⟨G, hG⟩ : ∃ G, G = Um.steepAll f sides k := ⟨_, rfl⟩
  rw [← hG] at HLN HNS
  have HG := hid hG
  obtain ⟨FF, hFF⟩ : ∃ F, F = Um.formF f sides := ⟨_, rfl⟩
  rw [← hFF] at HFO
  have HFF := hid hFF
  obtain ⟨BN, hBN⟩ : ∃ B, B = Um.bndAll s p b := ⟨_, rfl⟩
  rw [← hBN] at HRB HNB
  have HBN := hid hBN
  obtain ⟨PN, hPN⟩ : ∃ B, B = Um.pullAll s p b := ⟨_, rfl⟩
  rw [← hPN] at HNP
  have HPN := hid hPN
  obtain ⟨QB, hQB⟩ : ∃ Q : Bool, Q = ((FF == 0) && (decide (k < 0) || decide (sides ≤ k))) := ⟨_, rfl⟩
  have HQB := hid hQB
  clear hG hFF hBN hPN hQB
  go_enter Tryd.func3, Tryd.ntmps3
  go_upto_region 2 with (go_at_call 4; refine (HFO _ (hF.lt hl2)).out.mono ?_; rintro e wm ⟨rfl, hq⟩; subst wm; clear HFO)
  go_cut [36] from 23 to 36 (fun v wr => v = .bool QB ∧ Fr (w.alloc (.cells #[.slice a0 s.length cap0, .slice a1 p.length cap1] 26)) wr [])
  case first =>
    clear HRT HNS HRB HNB HNP HNN HLN HG HFF HBN HPN
    cases d0 : (FF == 0)
    · have e : QB = false := by rw [HQB.out, d0]; rfl
      clear HQB
      subst e
      go_wp2
      go_meet
      case rel => exact ⟨rfl, hF⟩
    · cases d1 : decide (k < 0)
      · cases d2 : decide (sides ≤ k)
        · have e : QB = false := by rw [HQB.out, d0, d1, d2]; rfl
          clear HQB
          subst e
          go_wp2
          go_meet
          case rel => exact ⟨rfl, hF⟩
        · have e : QB = true := by rw [HQB.out, d0, d1, d2]; rfl
          clear HQB
          subst e
          go_wp2
          go_meet
          case rel => exact ⟨rfl, hF⟩
      · have e : QB = true := by rw [HQB.out, d0, d1]; rfl
        clear HQB
        subst e
        go_wp2
        go_meet
        case rel => exact ⟨rfl, hF⟩
  case rest =>
   clear hF y0 y1
   obtain ⟨rfl, hF⟩ := hcut
   have y0 := (hF.below.cell (p := ⟨w.heap.size, 0, none⟩) h1).trans c0
   have y1 := (hF.below.cell (p := ⟨w.heap.size, 1, none⟩) h1).trans c1
   obtain ⟨E1, hE1⟩ : ∃ E : Int, E = (if QB then 1 else FF) := ⟨_, rfl⟩
   have HE1 := hid hE1
   clear hE1
   go_upto_if 36 with fail
   go_cut [11] from 23 to 36 (fun v wr => v = .int .i64 E1 ∧ Fr (w.alloc (.cells #[.slice a0 s.length cap0, .slice a1 p.length cap1] 26)) wr [])
   case first =>
    clear HRT HNS HRB HNB HNP HNN HLN HG HFF HBN HPN HQB
    cases QB
    · have e : E1 = FF := HE1.out
      clear HE1
      subst e
      go_wp2
      go_meet
      case rel => exact ⟨rfl, hF⟩
    · have e : E1 = 1 := HE1.out
      clear HE1
      subst e
      go_wp2
      go_meet
      case rel => exact ⟨rfl, hF⟩
   case rest =>
    clear hF y0 y1
    obtain ⟨rfl, hF⟩ := hcut
    have y0 := (hF.below.cell (p := ⟨w.heap.size, 0, none⟩) h1).trans c0
    have y1 := (hF.below.cell (p := ⟨w.heap.size, 1, none⟩) h1).trans c1
    have HZ : Hid (E1 = 0 → Um.formF f sides = 0 ∧ (0 ≤ k ∧ k < sides)) := hid fun h => by
      have q := HE1.out
      rw [h] at q
      cases hq : QB
      · rw [hq] at q
        have f0 : FF = 0 := q.symm
        have g := HQB.out
        rw [hq, f0] at g
        have g2 : (decide (k < 0) || decide (sides ≤ k)) = false := g.symm
        rw [Bool.or_eq_false_iff] at g2
        exact ⟨HFF.out ▸ f0, Int.not_lt.1 (of_decide_eq_false g2.1), Int.not_le.1 (of_decide_eq_false g2.2)⟩
      · rw [hq] at q
        have q' : (0 : Int) = 1 := q
        exact absurd q' (by decide)
    have HN : Hid (¬ E1 = 0 → G = ([], E1)) := hid fun h => by
      rw [HG.out]
      have q := HE1.out
      cases hq : QB
      · rw [hq] at q
        have f0 : E1 = FF := q
        have f1 : ¬ Um.formF f sides = 0 := by rw [← HFF.out, ← f0]; exact h
        rw [Um.steepAll_form f1, ← HFF.out, ← f0]
      · rw [hq] at q
        have f0 : E1 = 1 := q
        have g := HQB.out
        rw [hq] at g
        obtain ⟨g1, g2⟩ := Bool.and_eq_true_iff.1 g.symm
        have f1 : Um.formF f sides = 0 := by rw [← HFF.out]; simpa using g1
        rw [Um.steepAll_none f1 (fun c => by rcases Bool.or_eq_true_iff.1 g2 with x | x <;> have := of_decide_eq_true x <;> omega), f0]
    clear HE1 HQB HFF
    go_upto_if 38 with fail
    go_cut [12, 11] from 23 to 44 (fun v e wr => e = .int .i64 G.2 ∧ Lt wr.heap.size wr v G.1 ∧ Fr (w.alloc (.cells #[.slice a0 s.length cap0, .slice a1 p.length cap1] 26)) wr [])
    case first =>
     clear HNS HRB HNB HNP HNN HLN HBN HPN
     by_cases h : E1 = 0
     · have kk : (E1 == 0) = true := by simpa using h
       obtain ⟨z1, z2⟩ := HZ.out h
       have HRS := fun w hl => hid (HRT.out z1 z2 w hl)
       rw [← HG.out] at HRS
       clear HRT HZ HN h HG z1 z2
       go_wp2_with (go_at_call 5; refine (HRS _ (hF.lt hl2)).out.mono ?_; rintro e wn ⟨r, rfl, hq, hb⟩; replace hF := hF.step hb; clear hb; clear y0 y1; have y0 := (hF.below.cell (p := ⟨w.heap.size, 0, none⟩) h1).trans c0; have y1 := (hF.below.cell (p := ⟨w.heap.size, 1, none⟩) h1).trans c1)
       go_meet
       case rel => exact ⟨rfl, hq, hF⟩
     · have kk : (E1 == 0) = false := by simpa using h
       have e := HN.out h
       clear HRT HZ HN h HG
       go_wp2
       go_meet
       case rel => rw [e]; exact ⟨rfl, Lt.nil _ _, hF⟩
    case rest =>
     clear hF y0 y1 HRT HZ HN HG
     obtain ⟨rfl, hq, hF⟩ := hcut
     have y0 := (hF.below.cell (p := ⟨w.heap.size, 0, none⟩) h1).trans c0
     have y1 := (hF.below.cell (p := ⟨w.heap.size, 1, none⟩) h1).trans c1
     obtain ⟨s5, d5, e5, -⟩ := (id hq)
     subst e5
     go_upto_region 8 with (go_at_call 6; refine (HNS _ (hF.lt hl2)).out.mono ?_; rintro e wn ⟨r2, rfl, hx, hb⟩; replace hq := hq.step hb; replace hF := hF.step hb; clear hb; clear y0 y1; have y0 := (hF.below.cell (p := ⟨w.heap.size, 0, none⟩) h1).trans c0; have y1 := (hF.below.cell (p := ⟨w.heap.size, 1, none⟩) h1).trans c1; clear HNS)
     obtain ⟨s6, d6, e6, -⟩ := (id hx)
     subst e6
     go_upto_region 9 with (first | (go_at_call 7; refine (hid (same_any _ _ _ (hg.below (B := w.heap.size) (hBW.trans (hF.below.mono hBW.size)) hg.size))).out.mono ?_; rintro e wn ⟨rfl, hb⟩; replace hq := hq.step hb; replace hx := hx.step hb; replace hF := hF.step hb; clear hb; clear y0 y1; have y0 := (hF.below.cell (p := ⟨w.heap.size, 0, none⟩) h1).trans c0; have y1 := (hF.below.cell (p := ⟨w.heap.size, 1, none⟩) h1).trans c1) | (go_at_call 8; refine (hid (form_same _ _ _ _ hx hq HLN.out)).out.mono ?_; rintro e wn ⟨rfl, hb⟩; replace hF := hF.step hb; clear hb; clear y0 y1; have y0 := (hF.below.cell (p := ⟨w.heap.size, 0, none⟩) h1).trans c0; have y1 := (hF.below.cell (p := ⟨w.heap.size, 1, none⟩) h1).trans c1; clear hx hq))
     clear HLN
     go_upto_region 10 with (go_at_call 9; refine (HRB _ (hF.lf hf2) (hF.ls hp2) (hF.ls hb2)).out.mono ?_; rintro e wn ⟨rfl, hb⟩; replace hF := hF.step hb; clear hb; clear y0 y1; have y0 := (hF.below.cell (p := ⟨w.heap.size, 0, none⟩) h1).trans c0; have y1 := (hF.below.cell (p := ⟨w.heap.size, 1, none⟩) h1).trans c1; clear HRB)
     go_upto_region 11 with (go_at_call 10; refine (HNB _ (hF.lf hf2) (hF.ls hp2) (hF.ls hb2)).out.mono ?_; rintro e wn ⟨rfl, hb⟩; replace hF := hF.step hb; clear hb; clear y0 y1; have y0 := (hF.below.cell (p := ⟨w.heap.size, 0, none⟩) h1).trans c0; have y1 := (hF.below.cell (p := ⟨w.heap.size, 1, none⟩) h1).trans c1; clear HNB)
     go_upto_region 12 with (go_at_call 7; refine (hid (same_any _ _ _ (hg.below (B := w.heap.size) (hBW.trans (hF.below.mono hBW.size)) hg.size))).out.mono ?_; rintro e wn ⟨rfl, hb⟩; replace hF := hF.step hb; clear hb; clear y0 y1; have y0 := (hF.below.cell (p := ⟨w.heap.size, 0, none⟩) h1).trans c0; have y1 := (hF.below.cell (p := ⟨w.heap.size, 1, none⟩) h1).trans c1)
     obtain ⟨NL, hNL⟩ : ∃ N : List (Int × Int), N = (if BN.2 = 0 then (Um.ofAll s p b).1 else []) := ⟨_, rfl⟩
     have HNL := hid hNL
     clear hNL
     go_upto_if 81 with fail
     go_cut [19, 11] from 37 to 87 (fun v e wr => e = .int .i64 PN.2 ∧ Ls wr.heap.size wr v NL ∧ Fr (w.alloc (.cells #[.slice a0 s.length cap0, .slice a1 p.length cap1] 26)) wr [])
     case first =>
      clear HNP
      by_cases h : BN.2 = 0
      · have kk : (BN.2 == 0) = true := by simpa using h
        have h' : (Um.bndAll s p b).2 = 0 := by rw [← HBN.out]; exact h
        have r0 := (Um.bndAll_good h').1
        have HNX := fun w h1 h2 h3 => hid (HNN.out r0 w h1 h2 h3)
        have e1 : (Um.behR s p b).1 = NL := by rw [HNL.out, if_pos h, Um.ofAll_yes r0]
        have e2 : (Um.behR s p b).2 = PN.2 := by rw [HPN.out, pull_fault h', Um.ofAll_yes r0]
        rw [e1, e2] at HNX
        clear HNN HBN HPN HNL h h' r0 e1 e2
        go_wp2_with (go_at_call 11; refine (HNX _ (hF.lf hf2) (hF.ls hp2) (hF.ls hb2)).out.mono ?_; rintro e wn ⟨r, rfl, hq, hb⟩; replace hF := hF.step hb; clear hb; clear y0 y1; have y0 := (hF.below.cell (p := ⟨w.heap.size, 0, none⟩) h1).trans c0; have y1 := (hF.below.cell (p := ⟨w.heap.size, 1, none⟩) h1).trans c1)
        go_meet
        case rel => exact ⟨rfl, hq, hF⟩
      · have kk : (BN.2 == 0) = false := by simpa using h
        have h' : ¬ (Um.bndAll s p b).2 = 0 := by rw [← HBN.out]; exact h
        have e1 : NL = [] := by rw [HNL.out, if_neg h]
        have e2 : PN.2 = BN.2 := by rw [HPN.out, Um.pull_bound h', ← HBN.out]
        clear HNN HBN HPN HNL h h'
        go_wp2
        go_meet
        case rel => rw [e1, e2]; exact ⟨rfl, Ls.nil _ _, hF⟩
     case rest =>
      clear hF y0 y1 HNN
      obtain ⟨rfl, hq, hF⟩ := hcut
      have y0 := (hF.below.cell (p := ⟨w.heap.size, 0, none⟩) h1).trans c0
      have y1 := (hF.below.cell (p := ⟨w.heap.size, 1, none⟩) h1).trans c1
      obtain ⟨s7, d7, e7, -⟩ := (id hq)
      subst e7
      go_upto_region 15 with fail
      go_cut [20] from 37 to 98 (fun v wr => v = .bool PN.1 ∧ Fr (w.alloc (.cells #[.slice a0 s.length cap0, .slice a1 p.length cap1] 26)) wr [])
      case first =>
       clear HNP
       by_cases h : PN.2 = 0
       · have kk : (PN.2 == 0) = true := by simpa using h
         have b0 : (Um.bndAll s p b).2 = 0 := by
           by_cases c : (Um.bndAll s p b).2 = 0
           · exact c
           · have := HPN.out
             rw [Um.pull_bound c] at this
             rw [this] at h; exact absurd h c
         have o0 : (Um.ofAll s p b).2 = 0 := by rw [← pull_fault b0, ← HPN.out]; exact h
         have e0 : PN.1 = (decide (BN.1 < 1000) && Um.withinB (Um.ofAll s p b).1 b) := by rw [HPN.out, Um.pull_yes b0 o0, HBN.out]
         have eN : NL = (Um.ofAll s p b).1 := by rw [HNL.out, if_pos (by rw [HBN.out]; exact b0)]
         obtain ⟨r0, r1, r2⟩ := Um.ofAll_good o0
         have bx : Um.boxesF NL b = 0 := by rw [eN, r1]; exact (Um.beh_boxes r0 r2).1
         have HWI := fun w h1 h2 => hid (rWithin_any NL (.slice s7 NL.length d7) b (.slice a2 b.length cap2) w h1 h2 bx)
         rw [← eN] at e0
         clear HBN HPN HNL h b0 o0 eN r0 r1 r2 bx
         generalize Um.withinB NL b = WB at *
         cases dd : decide (BN.1 < 1000)
         · have e : PN.1 = false := by rw [e0, dd]; rfl
           clear e0 HWI
           go_wp2
           go_meet
           case rel => rw [e]; exact ⟨rfl, hF⟩
         · have e : PN.1 = WB := by rw [e0, dd]; rfl
           clear e0
           go_wp2_with (go_at_call 12; refine (HWI _ hq (hF.ls hb2)).out.mono ?_; rintro e wn ⟨rfl, hb⟩; replace hF := hF.step hb; clear hb; clear y0 y1; have y0 := (hF.below.cell (p := ⟨w.heap.size, 0, none⟩) h1).trans c0; have y1 := (hF.below.cell (p := ⟨w.heap.size, 1, none⟩) h1).trans c1)
           go_meet
           case rel => rw [e]; exact ⟨rfl, hF⟩
       · have kk : (PN.2 == 0) = false := by simpa using h
         have e : PN.1 = false := by
           have := HPN.out
           rw [this] at h ⊢
           unfold Um.pullAll at h ⊢
           repeat' split
           all_goals first | rfl | (rename_i x y; rw [if_pos x, if_pos y] at h; exact absurd rfl h)
         clear HBN HPN HNL h
         go_wp2
         go_meet
         case rel => rw [e]; exact ⟨rfl, hF⟩
      case rest =>
       clear hF y0 y1 HBN HPN HNL hq
       obtain ⟨rfl, hF⟩ := hcut
       have y0 := (hF.below.cell (p := ⟨w.heap.size, 0, none⟩) h1).trans c0
       have y1 := (hF.below.cell (p := ⟨w.heap.size, 1, none⟩) h1).trans c1
       go_upto_region 17 with (go_at_call 13; refine (HNP _ (hF.lf hf2) (hF.ls hp2) (hF.ls hb2)).out.mono ?_; rintro e wn ⟨rfl, hb⟩; replace hF := hF.step hb; clear hb; clear y0 y1; have y0 := (hF.below.cell (p := ⟨w.heap.size, 0, none⟩) h1).trans c0; have y1 := (hF.below.cell (p := ⟨w.heap.size, 1, none⟩) h1).trans c1; clear HNP)
       go_upto_region 18 with (go_at_call 7; refine (hid (same_any _ _ _ (hg.below (B := w.heap.size) (hBW.trans (hF.below.mono hBW.size)) hg.size))).out.mono ?_; rintro e wn ⟨rfl, hb⟩; replace hF := hF.step hb; clear hb; clear y0 y1; have y0 := (hF.below.cell (p := ⟨w.heap.size, 0, none⟩) h1).trans c0; have y1 := (hF.below.cell (p := ⟨w.heap.size, 1, none⟩) h1).trans c1)
       go_wp2
       go_returns
       exact ⟨rfl, hBW.trans (hF.below.mono hBW.size)⟩
end Go.Proofs.YtmkdjaafkigemaaDoor.NrTells
