/-
  The walk over 'spanlaw2.HoldTells': for all s, b, by, most it returns true.
-/
import Derived.Test.YtkeoafbkbblnaaaDoorHold
import Derived.Test.YtkeoafbkbblnaaaDoorRefBox
import Derived.Test.YtkeoafbkbblnaaaDoorRefNext
import Derived.Test.YtkeoafbkbblnaaaDoorSame
import Derived.LoopTactic
import Derived.Deep.CutRange
namespace Go.Proofs.YtkeoafbkbblnaaaDoor
open Go.RowKit
theorem rBig_below (lo hi : Int) (w : World) :
    Calls Tryd.prog 20 #[.agg #[.int .i64 lo, .int .i64 hi]] w fun e w' => e = .returned (.bool (Um.bigB (lo, hi))) ∧ Below w.heap.size w w' := by
  refine (rBig_any lo hi w).mono ?_
  rintro e w' ⟨rfl, rfl⟩
  exact ⟨rfl, by go_grown⟩
theorem grow_as {s : List (List Um.Tm)} {p b : List (Int × Int)} {y n : Int} {Z : List (Int × Int) × Int} (e : Um.growAll s p b y n = Z) (v0 v1 v : Value) (w : World) (hf : Lf w.heap.size w v0 s) (hp : Ls w.heap.size w v1 p) (hs : Ls w.heap.size w v b) :
    Calls Tryd.prog 21 #[.agg #[v0, v1], v, .int .i64 y, .int .i64 n] w fun e w' => ∃ r, e = .returned (.tuple #[r, errV Z.2]) ∧ Ls w'.heap.size w' r Z.1 ∧ Below w.heap.size w w' := by
  subst e
  exact hlGrow_any s v0 p v1 b v y n w hf hp hs
theorem Own.zero {w : World} {base g cap : Nat} {q : List (Int × Int)} (h : Own w base g cap q) : Own w 0 g cap q := by
  obtain ⟨e, h2⟩ := h
  refine ⟨e, h2.imp id ?_⟩
  rintro ⟨g1, cap1, cur, e1, _, r⟩
  exact ⟨g1, cap1, cur, e1, Nat.zero_le _, r⟩
theorem hull_own (a b : List (Int × Int)) (u v : Value) (w : World) (hs1 : Ls w.heap.size w u a) (hs2 : Ls w.heap.size w v b) (h : Um.boxesF a b = 0) :
    Calls Tryd.prog 14 #[u, v] w fun e w' => ∃ g cap, e = .returned (.slice (some ⟨g, 0, none⟩) (Um.hullN a b a.length).length cap) ∧ w.heap.size ≤ g ∧ Own w' 0 g cap (Um.hullN a b a.length) ∧ Below w.heap.size w w' := by
  refine (rHullBox_own a b u v w hs1 hs2 h).mono ?_
  rintro e w' ⟨r, rfl, h2, h3⟩
  obtain ⟨g, cap, rfl, o⟩ := owns_open h2 (by rw [Um.hull_length]; exact (Um.box_len (Um.boxes_ok.1 h).1).1)
  exact ⟨g, cap, rfl, o.ge, o.zero, h3⟩
end Go.Proofs.YtkeoafbkbblnaaaDoor
namespace Go.Proofs.YtkeoafbkbblnaaaDoor.HlTells
set_option linter.unusedSimpArgs false
open Go.RowKit

set_option maxRecDepth 100000 in
set_option maxHeartbeats 16000000 in
theorem walk (s : List (List Um.Tm)) (v0 : Value) (p : List (Int × Int)) (v1 : Value) (b : List (Int × Int)) (v : Value) (y n : Int) (w : World) (hg : HasErr w) (hf : Lf w.heap.size w v0 s) (hp : Ls w.heap.size w v1 p) (hs : Ls w.heap.size w v b) :
    Calls Tryd.prog 4 #[.agg #[v0, v1], v, .int .i64 y, .int .i64 n] w fun e w' => e = .returned (.bool true) ∧ Below w.heap.size w w' := by
  have v0 := errV_none
  have q1 := errG
  have q2 := errGn
  have q3 := errE
  have q4 := errN
  obtain ⟨a0, cap0, rfl, -⟩ := (id hf)
  obtain ⟨a1, cap1, rfl, -⟩ := (id hp)
  obtain ⟨a2, cap2, rfl, -⟩ := (id hs)
  have h1 : w.heap.size < (w.alloc (.cells #[.slice a0 s.length cap0, .slice a1 p.length cap1] 25)).heap.size := by simp
  have hBW : Below w.heap.size w (w.alloc (.cells #[.slice a0 s.length cap0, .slice a1 p.length cap1] 25)) := by go_grown
  obtain ⟨c0, c1⟩ := sys_cells w (.slice a0 s.length cap0) (.slice a1 p.length cap1) 25
  have hF := Fr.start (w.alloc (.cells #[.slice a0 s.length cap0, .slice a1 p.length cap1] 25))
  have hf2 := hf.step hBW
  have hp2 := hp.step hBW
  have hb2 := hs.step hBW
  have HRD := fun w h1 h2 h3 => hid (rReady_any s (.slice a0 s.length cap0) p (.slice a1 p.length cap1) b (.slice a2 b.length cap2) w h1 h2 h3)
  have HNX0 := fun e w h1 h2 h3 => hid (rNext_any s (.slice a0 s.length cap0) p (.slice a1 p.length cap1) b (.slice a2 b.length cap2) w h1 h2 h3 e)
  have HIS := fun w h1 h2 h3 => hid (hlIs_any s (.slice a0 s.length cap0) p (.slice a1 p.length cap1) b (.slice a2 b.length cap2) w h1 h2 h3)
  obtain ⟨O, hO⟩ : ∃ O, O = Um.ofAll s p b := ⟨_, rfl⟩
  obtain ⟨RF, hRF⟩ : ∃ RF, RF = Um.readyF s p b := ⟨_, rfl⟩
  obtain ⟨HB, hHB⟩ : ∃ HB, HB = Um.isB s p b := ⟨_, rfl⟩
  obtain ⟨GF, hGF⟩ : ∃ GF, GF = Um.growF s p b y n := ⟨_, rfl⟩
  obtain ⟨ZA, hZA⟩ : ∃ ZA, ZA = decide (¬ (0 ≤ y ∧ y ≤ 1000000000 ∧ 0 ≤ n ∧ n ≤ 20)) := ⟨_, rfl⟩
  have E1 : Hid (RF = 0 → O = Um.behR s p b) := fun h => by rw [hO]; exact Um.ofAll_yes (hRF.symm.trans h)
  have E2 : Hid (¬ RF = 0 → O = ([], RF)) := fun h => by rw [hO, hRF]; exact Um.ofAll_not (fun c => h (hRF.trans c))
  have E3 : Hid (O.2 = 0 → Um.boxesF O.1 b = 0 ∧ HB = Um.withinB O.1 b) := fun h => by
    have g := h
    rw [hO] at g
    obtain ⟨h0, e, h2⟩ := Um.ofAll_good g
    refine ⟨by rw [hO, e]; exact (Um.beh_boxes h0 h2).1, ?_⟩
    rw [hHB]; unfold Um.isB
    rw [← hO, decide_eq_true h, Bool.true_and]
  have E4 : Hid (¬ O.2 = 0 → HB = false) := fun h => by
    rw [hHB]; unfold Um.isB
    rw [← hO, decide_eq_false h, Bool.false_and]
  have E5 : Hid (ZA = true → GF = 1) := fun h => by
    rw [hZA] at h
    rw [hGF]; unfold Um.growF
    rw [if_neg (of_decide_eq_true h)]
  have E6 : Hid (ZA = false → GF = RF) := fun h => by
    rw [hZA] at h
    rw [hGF, hRF]; unfold Um.growF
    rw [if_pos (Decidable.not_not.1 (of_decide_eq_false h))]
  have HRF := hid hRF
  have HGF := hid hGF
  have HZA := hid hZA
  rw [← hRF] at HRD
  rw [← hHB, ← hO] at HIS
  clear hf hp hs hO hRF hHB hGF hZA
  have y0 := c0
  have y1 := c1
  go_enter Tryd.func4, Tryd.ntmps4
  go_upto_if 25 with (go_at_call 17; refine (HRD _ (hF.lf hf2) (hF.ls hp2) (hF.ls hb2)).out.mono ?_; rintro e wn ⟨rfl, hb⟩; replace hF := hF.step hb; clear hb; clear y0 y1; have y0 := (hF.below.cell (p := ⟨w.heap.size, 0, none⟩) h1).trans c0; have y1 := (hF.below.cell (p := ⟨w.heap.size, 1, none⟩) h1).trans c1)
  go_cut [9, 10] from 21 to 31 (fun e r w1 => e = .int .i64 O.2 ∧ Fr (w.alloc (.cells #[.slice a0 s.length cap0, .slice a1 p.length cap1] 25)) w1 [] ∧ ∃ a5 cap5, r = .slice a5 O.1.length cap5 ∧ Ls w1.heap.size w1 (.slice a5 O.1.length cap5) O.1)
  case first =>
    clear HRD HIS E3 E4 E5 E6 HGF HZA
    by_cases h : RF = 0
    · have e1 := E1.out h
      have HNX := fun w h1 h2 h3 => HNX0 (HRF.out.symm.trans h) w h1 h2 h3
      rw [← e1] at HNX
      have k : (RF == 0) = true := by simpa using h
      clear E1 E2 h HNX0 e1
      go_wp2_with (go_at_call 13; refine (HNX _ (hF.lf hf2) (hF.ls hp2) (hF.ls hb2)).out.mono ?_; rintro e wn ⟨r1, rfl, hw, hb⟩; replace hF := hF.step hb; clear hb; clear y0 y1; have y0 := (hF.below.cell (p := ⟨w.heap.size, 0, none⟩) h1).trans c0; have y1 := (hF.below.cell (p := ⟨w.heap.size, 1, none⟩) h1).trans c1; obtain ⟨s1, d1, rfl, -⟩ := (id hw); clear HNX)
      go_meet
      case rel => exact ⟨rfl, hF, _, _, rfl, hw⟩
    · have e1 := E2.out h
      have k : (RF == 0) = false := by simpa using h
      clear E1 E2 h HNX0
      go_wp2
      go_meet
      case rel => exact ⟨by rw [e1], hF, none, 0, by rw [e1]; rfl, by rw [e1]; exact Ls.nil _ _⟩
  case rest =>
   clear hF y0 y1 HNX0 E1 E2
   obtain ⟨rfl, hF, a5, cap5, rfl, hw⟩ := hcut
   have y0 := (hF.below.cell (p := ⟨w.heap.size, 0, none⟩) h1).trans c0
   have y1 := (hF.below.cell (p := ⟨w.heap.size, 1, none⟩) h1).trans c1
   go_upto_region 5 with fail
   go_cut [11] from 21 to 38 (fun v w1 => v = .bool HB ∧ Fr (w.alloc (.cells #[.slice a0 s.length cap0, .slice a1 p.length cap1] 25)) w1 [])
   case first =>
    clear HRD HIS E5 E6 HRF HGF HZA
    by_cases h : O.2 = 0
    · have k : (O.2 == 0) = true := by simpa using h
      obtain ⟨g1, e1⟩ := E3.out h
      have HWI := fun u v w h1 h2 => hid (rWithin_any O.1 u b v w h1 h2 g1)
      rw [← e1] at HWI
      clear E3 E4 h g1 e1
      go_wp2_with (go_at_call 18; refine (HWI _ _ _ hw (hF.ls hb2)).out.mono ?_; rintro e wn ⟨rfl, hb⟩; replace hF := hF.step hb; clear hb; clear y0 y1; have y0 := (hF.below.cell (p := ⟨w.heap.size, 0, none⟩) h1).trans c0; have y1 := (hF.below.cell (p := ⟨w.heap.size, 1, none⟩) h1).trans c1; clear HWI)
      go_meet
      case rel => exact ⟨rfl, hF⟩
    · have k : (O.2 == 0) = false := by simpa using h
      have e1 := E4.out h
      clear E3 E4 h
      go_wp2
      go_meet
      case rel => exact ⟨by rw [e1], hF⟩
   case rest =>
    clear hF y0 y1 hw E3 E4
    obtain ⟨rfl, hF⟩ := hcut
    have y0 := (hF.below.cell (p := ⟨w.heap.size, 0, none⟩) h1).trans c0
    have y1 := (hF.below.cell (p := ⟨w.heap.size, 1, none⟩) h1).trans c1
    go_upto_region 7 with (go_at_call 19; refine (HIS _ (hF.lf hf2) (hF.ls hp2) (hF.ls hb2)).out.mono ?_; rintro e wn ⟨rfl, hb⟩; replace hF := hF.step hb; clear hb; clear y0 y1; have y0 := (hF.below.cell (p := ⟨w.heap.size, 0, none⟩) h1).trans c0; have y1 := (hF.below.cell (p := ⟨w.heap.size, 1, none⟩) h1).trans c1; clear HIS)
    go_upto_region 9 with (go_at_call 10; refine (hid (same_any _ _ _ (hg.below (B := w.heap.size) (hBW.trans (hF.below.mono hBW.size)) hg.size))).out.mono ?_; rintro e wn ⟨rfl, hb⟩; replace hF := hF.step hb; clear hb; clear y0 y1; have y0 := (hF.below.cell (p := ⟨w.heap.size, 0, none⟩) h1).trans c0; have y1 := (hF.below.cell (p := ⟨w.heap.size, 1, none⟩) h1).trans c1)
    go_cut [66] from 21 to 65 (fun v w1 => v = .bool ZA ∧ Fr (w.alloc (.cells #[.slice a0 s.length cap0, .slice a1 p.length cap1] 25)) w1 [])
    case first =>
      clear HRD E5 E6 HRF HGF
      by_cases h2 : y < 0
      · have k2 : decide (y < 0) = true := decide_eq_true h2
        have e1 : ZA = true := by rw [HZA.out]; exact decide_eq_true (by omega)
        clear HZA h2
        subst e1
        go_wp2
        go_meet
        case rel => exact ⟨rfl, hF⟩
      · have k2 : decide (y < 0) = false := decide_eq_false h2
        by_cases h3 : 1000000000 < y
        · have k3 : decide (1000000000 < y) = true := decide_eq_true h3
          have e1 : ZA = true := by rw [HZA.out]; exact decide_eq_true (by omega)
          clear HZA h2 h3
          subst e1
          go_wp2
          go_meet
          case rel => exact ⟨rfl, hF⟩
        · have k3 : decide (1000000000 < y) = false := decide_eq_false h3
          by_cases h4 : n < 0
          · have k4 : decide (n < 0) = true := decide_eq_true h4
            have e1 : ZA = true := by rw [HZA.out]; exact decide_eq_true (by omega)
            clear HZA h2 h3 h4
            subst e1
            go_wp2
            go_meet
            case rel => exact ⟨rfl, hF⟩
          · have k4 : decide (n < 0) = false := decide_eq_false h4
            by_cases h5 : 20 < n
            · have k5 : decide (20 < n) = true := decide_eq_true h5
              have e1 : ZA = true := by rw [HZA.out]; exact decide_eq_true (by omega)
              clear HZA h2 h3 h4 h5
              subst e1
              go_wp2
              go_meet
              case rel => exact ⟨rfl, hF⟩
            · have k5 : decide (20 < n) = false := decide_eq_false h5
              have e1 : ZA = false := by rw [HZA.out]; exact decide_eq_false (by omega)
              clear HZA h2 h3 h4 h5
              subst e1
              go_wp2
              go_meet
              case rel => exact ⟨rfl, hF⟩
    case rest =>
     clear hF y0 y1 HZA
     obtain ⟨rfl, hF⟩ := hcut
     have y0 := (hF.below.cell (p := ⟨w.heap.size, 0, none⟩) h1).trans c0
     have y1 := (hF.below.cell (p := ⟨w.heap.size, 1, none⟩) h1).trans c1
     go_upto_if 66 with fail
     go_cut [9] from 21 to 69 (fun e w1 => e = .int .i64 GF ∧ Fr (w.alloc (.cells #[.slice a0 s.length cap0, .slice a1 p.length cap1] 25)) w1 [])
     case first =>
      clear HRF HGF
      cases ZA
      · have e1 := E6.out rfl
        clear E5 E6
        subst e1
        go_wp2_with (go_at_call 17; refine (HRD _ (hF.lf hf2) (hF.ls hp2) (hF.ls hb2)).out.mono ?_; rintro e wn ⟨rfl, hb⟩; replace hF := hF.step hb; clear hb; clear y0 y1; have y0 := (hF.below.cell (p := ⟨w.heap.size, 0, none⟩) h1).trans c0; have y1 := (hF.below.cell (p := ⟨w.heap.size, 1, none⟩) h1).trans c1)
        go_meet
        case rel => exact ⟨rfl, hF⟩
      · have e1 := E5.out rfl
        clear E5 E6 HRD
        subst e1
        go_wp2
        go_meet
        case rel => exact ⟨rfl, hF⟩
     case rest =>
      clear hF y0 y1 E5 E6 HRD
      obtain ⟨rfl, hF⟩ := hcut
      by_cases hz2 : GF = 0
      · obtain ⟨⟨hy0, hy1, hn0, hn1⟩, hr⟩ := Um.growF_ok.1 (HGF.out.symm.trans hz2)
        obtain ⟨m, rfl⟩ : ∃ m : Nat, n = m := ⟨n.toNat, by omega⟩
        have HGA : Hid (Um.growAll s p b y m = Um.growR s p y m b) := by unfold Um.growAll; rw [if_pos (HGF.out.symm.trans hz2)]; exact hid rfl
        have HB0 := hid (hF.ls hb2)
        have HR0 := hid hr
        subst hz2
        clear hn0 hr HGF HRF
        go_wp2
        go_loopw [9, 15, 16] (fun e vc i wq => ∃ k : Nat, k ≤ m + 1 ∧ i = .int .i64 k ∧ Fr (w.alloc (.cells #[.slice a0 s.length cap0, .slice a1 p.length cap1] 25)) wq [] ∧ ∃ c : List (Int × Int), Ls wq.heap.size wq vc c ∧ ((e = .int .i64 0 ∧ k ≤ m ∧ Hid (Um.readyF s p c = 0) ∧ Hid (Um.growR s p y m b = Um.growR s p y (m - k) c)) ∨ (e = .int .i64 4 ∧ Hid (Um.growR s p y m b = ([], 4))))) (fun _ _ i _ => m + 1 - (intOf i).toNat)
        case atStart => exact ⟨0, Nat.zero_le _, rfl, hF, b, HB0.out, .inl ⟨rfl, Nat.zero_le _, HR0.out, rfl⟩⟩
        case round =>
          clear hF HB0 HR0
          obtain ⟨k, hk, rfl, hF, c, hc, hor⟩ := hrel
          have y0 := (hF.below.cell (p := ⟨w.heap.size, 0, none⟩) h1).trans c0
          have y1 := (hF.below.cell (p := ⟨w.heap.size, 1, none⟩) h1).trans c1
          obtain ⟨a9, c9, rfl, -⟩ := (id hc)
          rcases hor with ⟨rfl, hkm, hrc, hgr⟩ | ⟨rfl, hgr⟩
          · have hkk : decide ((k : Int) ≤ (m : Int)) = true := decide_eq_true (by omega)
            have HNX := fun w h1 h2 h3 => hid (rNext_any s (.slice a0 s.length cap0) p (.slice a1 p.length cap1) c (.slice a9 c.length c9) w h1 h2 h3 hrc.out)
            by_cases hz : (Um.behR s p c).2 = 0
            · obtain ⟨g1, g2⟩ := Um.beh_boxes hrc.out hz
              have HWI := fun u w h1 h2 => hid (rWithin_any (Um.behR s p c).1 u c (.slice a9 c.length c9) w h1 h2 g1)
              rw [hz] at HNX
              cases hwb : Um.withinB (Um.behR s p c).1 c
              · rw [hwb] at HWI
                by_cases hke : k = m
                · have ki : ((k : Int) == (m : Int)) = true := by rw [hke]; simp
                  have HEQ : Um.growAll s p b y m = ([], 5) := by
                    rw [HGA.out, hgr.out, hke, Nat.sub_self]
                    exact Um.grow_end hz (by rw [hwb]; decide)
                  have HEQH := hid HEQ
                  clear HEQ hz hwb hke hgr HGA g1 g2 hrc hy0 hy1
                  generalize Um.behR s p c = Z at *
                  go_upto_region 17 with (go_at_call 13; refine (HNX _ (hF.lf hf2) (hF.ls hp2) hc).out.mono ?_; rintro e wn ⟨r1, rfl, hw, hb⟩; replace hc := hc.step hb; replace hF := hF.step hb; clear hb; clear y0 y1; have y0 := (hF.below.cell (p := ⟨w.heap.size, 0, none⟩) h1).trans c0; have y1 := (hF.below.cell (p := ⟨w.heap.size, 1, none⟩) h1).trans c1; obtain ⟨s1, d1, rfl, -⟩ := (id hw); clear HNX)
                  go_upto_region 18 with (go_at_call 18; refine (HWI _ _ hw hc).out.mono ?_; rintro e wn ⟨rfl, hb⟩; replace hc := hc.step hb; replace hw := hw.step hb; replace hF := hF.step hb; clear hb; clear y0 y1; have y0 := (hF.below.cell (p := ⟨w.heap.size, 0, none⟩) h1).trans c0; have y1 := (hF.below.cell (p := ⟨w.heap.size, 1, none⟩) h1).trans c1; clear HWI)
                  go_upto_region 31 with fail
                  have HEQ := HEQH.out
                  clear HEQH hc hw
                  obtain ⟨AL, hAL⟩ : ∃ AL : List (Int × Int), AL = [] := ⟨_, rfl⟩
                  rw [← hAL] at HEQ
                  have HGR := fun w h1 h2 h3 => hid (grow_as HEQ (.slice a0 s.length cap0) (.slice a1 p.length cap1) (.slice a2 b.length cap2) w h1 h2 h3)
                  have hv : Ls wn.heap.size wn (.slice none 0 0) AL := by rw [hAL]; exact Ls.nil _ _
                  have HAL : Hid (AL.length ≤ 1000) := by rw [hAL]; exact hid (by decide)
                  clear HEQ hAL
                  go_upto_region 32 with (go_at_call 21; refine (HGR _ (hF.lf hf2) (hF.ls hp2) (hF.ls hb2)).out.mono ?_; rintro e wn ⟨r4, rfl, hh, hb⟩; replace hv := hv.step hb; replace hF := hF.step hb; clear hb; clear y0 y1; have y0 := (hF.below.cell (p := ⟨w.heap.size, 0, none⟩) h1).trans c0; have y1 := (hF.below.cell (p := ⟨w.heap.size, 1, none⟩) h1).trans c1; obtain ⟨s4, d4, rfl, -⟩ := (id hh); clear HGR)
                  go_upto_region 33 with (first | (go_at_call 10; refine (hid (same_any _ _ _ (hg.below (B := w.heap.size) (hBW.trans (hF.below.mono hBW.size)) hg.size))).out.mono ?_; rintro e wn ⟨rfl, hb⟩; replace hv := hv.step hb; replace hh := hh.step hb; replace hF := hF.step hb; clear hb; clear y0 y1; have y0 := (hF.below.cell (p := ⟨w.heap.size, 0, none⟩) h1).trans c0; have y1 := (hF.below.cell (p := ⟨w.heap.size, 1, none⟩) h1).trans c1) | (go_at_call 16; refine (hid (box_same AL _ _ _ hh hv HAL.out)).out.mono ?_; rintro e wn ⟨rfl, hb⟩; replace hF := hF.step hb; clear hb; clear y0 y1; have y0 := (hF.below.cell (p := ⟨w.heap.size, 0, none⟩) h1).trans c0; have y1 := (hF.below.cell (p := ⟨w.heap.size, 1, none⟩) h1).trans c1; clear hh hv))
                  go_wp2
                  go_returns
                  exact ⟨rfl, hBW.trans (hF.below.mono hBW.size)⟩
                · have ki : ((k : Int) == (m : Int)) = false := beq_false_of_ne (by omega)
                  have HHU := fun u w h1 h2 => hid (hull_own c (Um.behR s p c).1 (.slice a9 c.length c9) u w h1 h2 g2)
                  have hhb := (Um.hull_box g2).1
                  have HHB := hid hhb
                  have HN : Hid (Um.nextC s p c y = Um.widerL (Um.hullN c (Um.behR s p c).1 c.length) y) := hid rfl
                  have HOK := fun g => hid (Um.nextC_ok hrc.out hz hy0 g)
                  have HGS : Hid (Um.growR s p y m b = if Um.bigL (Um.nextC s p c y) = true then ([], 4) else Um.growR s p y (m - (k + 1)) (Um.nextC s p c y)) := by
                    rw [hgr.out, show m - k = m - (k + 1) + 1 by omega]
                    exact hid (Um.grow_step hz (by rw [hwb]; decide))
                  have hl3 := (Um.box_len hhb).2
                  clear hz hwb hgr HGA g1 g2 hrc hhb
                  generalize Um.nextC s p c y = NC at *
                  generalize Um.behR s p c = Z at *
                  generalize Um.hullN c Z.1 c.length = h at *
                  go_upto_region 17 with (go_at_call 13; refine (HNX _ (hF.lf hf2) (hF.ls hp2) hc).out.mono ?_; rintro e wn ⟨r1, rfl, hw, hb⟩; replace hc := hc.step hb; replace hF := hF.step hb; clear hb; clear y0 y1; have y0 := (hF.below.cell (p := ⟨w.heap.size, 0, none⟩) h1).trans c0; have y1 := (hF.below.cell (p := ⟨w.heap.size, 1, none⟩) h1).trans c1; obtain ⟨s1, d1, rfl, -⟩ := (id hw); clear HNX)
                  go_upto_region 18 with (go_at_call 18; refine (HWI _ _ hw hc).out.mono ?_; rintro e wn ⟨rfl, hb⟩; replace hc := hc.step hb; replace hw := hw.step hb; replace hF := hF.step hb; clear hb; clear y0 y1; have y0 := (hF.below.cell (p := ⟨w.heap.size, 0, none⟩) h1).trans c0; have y1 := (hF.below.cell (p := ⟨w.heap.size, 1, none⟩) h1).trans c1; clear HWI)
                  go_upto_region 21 with (go_at_call 14; refine (HHU _ _ hc hw).out.mono ?_; rintro e wn ⟨g, cap, rfl, hge, o, hb⟩; have hgX : (w.alloc (.cells #[.slice a0 s.length cap0, .slice a1 p.length cap1] 25)).heap.size ≤ g := Nat.le_trans hF.size hge; replace hF := hF.step hb; clear hb; clear HHU y0 y1 hc hw hge)
                  have HO0 := hid o
                  have HF0 := hid hF
                  clear o hF
                  go_wp2
                  go_loopw [9, 17] (fun e j wq => ∃ t : Nat, t ≤ h.length ∧ j = .int .i64 t ∧ e = .int .i64 (Um.bigE h y t) ∧ Own wq 0 g cap (Um.wideTo h y t) ∧ Fr (w.alloc (.cells #[.slice a0 s.length cap0, .slice a1 p.length cap1] 25)) wq []) (fun _ j _ => h.length - (intOf j).toNat)
                  case atStart => exact ⟨0, Nat.zero_le _, rfl, rfl, by rw [Um.wideTo_zero]; exact HO0.out, HF0.out⟩
                  case round =>
                    clear HO0 HF0
                    obtain ⟨t, ht, rfl, rfl, o, hF⟩ := hrel
                    by_cases htl : t < h.length
                    · have htt : (t : Int) < (h.length : Int) := by omega
                      have hlw : t < (Um.wideTo h y t).length := by rw [Um.wideTo_len h y t ht]; exact htl
                      obtain ⟨f1, f2, f3, f4, -⟩ := side_b HHB.out htl
                      have hAT := Um.wideTo_at (y := y) htl
                      have HST := hid (Um.wideTo_set (y := y) htl _ rfl)
                      have HBN : Hid (Um.bigN h y (t + 1) = (Um.bigN h y t || Um.bigB ((Um.sd h t).1 - y, (Um.sd h t).2 + y))) := by
                        show (Um.bigN h y t || Um.bigB (Um.sd (Um.widerL h y) t)) = _
                        rw [Um.wider_side htl]
                      have z1 := o.free (t * 2)
                      have z2 := o.lo hlw
                      have p1 := o.putLo t ((Um.sd h t).1 - y)
                      rw [hAT] at z2 p1
                      have z3 := p1.free (t * 2 + 1)
                      have z4 := p1.hi (j := t) (by rw [List.length_set]; exact hlw)
                      have p2 := p1.putHi t ((Um.sd h t).2 + y)
                      rw [Um.set_sd hlw] at z4 p2
                      rw [List.set_set] at p2
                      have z5 := p2.lo (j := t) (by rw [List.length_set]; exact hlw)
                      have z6 := p2.hi (j := t) (by rw [List.length_set]; exact hlw)
                      rw [Um.set_sd hlw] at z5 z6
                      rw [HST.out] at p2
                      clear hAT HST p1 o hlw HN HOK HGS
                      generalize Um.sd h t = D at *
                      obtain ⟨D0, D1⟩ := D
                      simp only at f1 f2 f3 f4 z2 z4 z5 z6 p2 HBN
                      have HBG := fun w => hid (rBig_below (D0 - y) (D1 + y) w)
                      cases hbg : Um.bigB (D0 - y, D1 + y)
                      · rw [hbg] at HBG HBN
                        have HE : Hid (Um.bigE h y (t + 1) = Um.bigE h y t) := by unfold Um.bigE; rw [HBN.out, Bool.or_false]; exact hid rfl
                        clear hbg HBN
                        generalize Um.bigE h y t = G9 at *
                        go_wp2_with (go_at_call 20; refine (HBG _).out.mono ?_; rintro e wn ⟨rfl, hb⟩; have o3 := p2.step hb; have hF3 : Fr (w.alloc (.cells #[.slice a0 s.length cap0, .slice a1 p.length cap1] 25)) wn [] := ⟨((hF.below.setCell hgX _).setCell hgX _).trans (hb.mono (by simpa using hF.size)), by simp, List.Pairwise.nil⟩; clear hb HBG)
                        exact ⟨⟨t + 1, by omega, by simp, by rw [HE.out], o3, hF3⟩, by simp [intOf]; omega⟩
                      · rw [hbg] at HBG HBN
                        have HE : Hid (Um.bigE h y (t + 1) = 4) := by unfold Um.bigE; rw [HBN.out, Bool.or_true, if_pos rfl]; exact hid rfl
                        clear hbg HBN
                        generalize Um.bigE h y t = G9 at *
                        go_wp2_with (go_at_call 20; refine (HBG _).out.mono ?_; rintro e wn ⟨rfl, hb⟩; have o3 := p2.step hb; have hF3 : Fr (w.alloc (.cells #[.slice a0 s.length cap0, .slice a1 p.length cap1] 25)) wn [] := ⟨((hF.below.setCell hgX _).setCell hgX _).trans (hb.mono (by simpa using hF.size)), by simp, List.Pairwise.nil⟩; clear hb HBG)
                        exact ⟨⟨t + 1, by omega, by simp, by rw [HE.out], o3, hF3⟩, by simp [intOf]; omega⟩
                    · obtain rfl : t = h.length := by omega
                      rw [Um.wideTo_all, ← HN.out] at o
                      have hlN : NC.length = h.length := by rw [HN.out, Um.wider_len]
                      have HLS := hid o.ls
                      rw [hlN] at HLS
                      have HEB : Hid (Um.bigE h y h.length = if Um.bigL NC = true then 4 else 0) := by unfold Um.bigE; rw [Um.bigN_all, ← HN.out]; exact hid rfl
                      clear o hlN HN HHB
                      cases hbl : Um.bigL NC
                      · obtain ⟨n1, -, -⟩ := (HOK (by rw [hbl]; decide)).out
                        have HR := hid n1
                        rw [hbl, if_neg (by decide)] at HGS HEB
                        clear hbl n1 HOK
                        generalize Um.bigE h y h.length = G9 at *
                        go_wp2
                        exact ⟨⟨k + 1, by omega, by simp, hF, NC, HLS.out, .inl ⟨by rw [HEB.out], by omega, HR.out, HGS.out⟩⟩, by simp [intOf]; omega⟩
                      · rw [hbl, if_pos rfl] at HGS HEB
                        clear hbl HOK
                        generalize Um.bigE h y h.length = G9 at *
                        go_wp2
                        exact ⟨⟨k + 1, by omega, by simp, hF, NC, HLS.out, .inr ⟨by rw [HEB.out], HGS.out⟩⟩, by simp [intOf]; omega⟩
              · rw [hwb] at HWI
                obtain ⟨N0, hN0⟩ : ∃ N0 : Int, N0 = 0 := ⟨_, rfl⟩
                have HEQ : Um.growAll s p b y m = (c, N0) := by
                  rw [HGA.out, hgr.out, hN0]
                  exact Um.grow_is hz hwb
                have kN : (N0 == 0) = true := by simpa using hN0
                have HGR := fun w h1 h2 h3 => hid (grow_as HEQ (.slice a0 s.length cap0) (.slice a1 p.length cap1) (.slice a2 b.length cap2) w h1 h2 h3)
                have HAL : Hid (c.length ≤ 1000) := hid (by have := (Um.box_len (Um.ready_ok.1 hrc.out).2.1).2; omega)
                clear HEQ hN0 hz hwb hgr HGA g1 g2 hrc hy0 hy1
                generalize Um.behR s p c = Z at *
                go_upto_region 17 with (go_at_call 13; refine (HNX _ (hF.lf hf2) (hF.ls hp2) hc).out.mono ?_; rintro e wn ⟨r1, rfl, hw, hb⟩; replace hc := hc.step hb; replace hF := hF.step hb; clear hb; clear y0 y1; have y0 := (hF.below.cell (p := ⟨w.heap.size, 0, none⟩) h1).trans c0; have y1 := (hF.below.cell (p := ⟨w.heap.size, 1, none⟩) h1).trans c1; obtain ⟨s1, d1, rfl, -⟩ := (id hw); clear HNX)
                go_upto_region 31 with (go_at_call 18; refine (HWI _ _ hw hc).out.mono ?_; rintro e wn ⟨rfl, hb⟩; replace hc := hc.step hb; replace hw := hw.step hb; replace hF := hF.step hb; clear hb; clear y0 y1; have y0 := (hF.below.cell (p := ⟨w.heap.size, 0, none⟩) h1).trans c0; have y1 := (hF.below.cell (p := ⟨w.heap.size, 1, none⟩) h1).trans c1; clear HWI)
                have hv := hc
                clear hc hw
                go_upto_region 32 with (go_at_call 21; refine (HGR _ (hF.lf hf2) (hF.ls hp2) (hF.ls hb2)).out.mono ?_; rintro e wn ⟨r4, rfl, hh, hb⟩; replace hv := hv.step hb; replace hF := hF.step hb; clear hb; clear y0 y1; have y0 := (hF.below.cell (p := ⟨w.heap.size, 0, none⟩) h1).trans c0; have y1 := (hF.below.cell (p := ⟨w.heap.size, 1, none⟩) h1).trans c1; obtain ⟨s4, d4, rfl, -⟩ := (id hh); clear HGR)
                go_upto_region 33 with (first | (go_at_call 10; refine (hid (same_any _ _ _ (hg.below (B := w.heap.size) (hBW.trans (hF.below.mono hBW.size)) hg.size))).out.mono ?_; rintro e wn ⟨rfl, hb⟩; replace hv := hv.step hb; replace hh := hh.step hb; replace hF := hF.step hb; clear hb; clear y0 y1; have y0 := (hF.below.cell (p := ⟨w.heap.size, 0, none⟩) h1).trans c0; have y1 := (hF.below.cell (p := ⟨w.heap.size, 1, none⟩) h1).trans c1) | (go_at_call 16; refine (hid (box_same c _ _ _ hh hv HAL.out)).out.mono ?_; rintro e wn ⟨rfl, hb⟩; replace hF := hF.step hb; clear hb; clear y0 y1; have y0 := (hF.below.cell (p := ⟨w.heap.size, 0, none⟩) h1).trans c0; have y1 := (hF.below.cell (p := ⟨w.heap.size, 1, none⟩) h1).trans c1; clear hh hv))
                go_wp2
                go_returns
                exact ⟨rfl, hBW.trans (hF.below.mono hBW.size)⟩
            · have kz : ((Um.behR s p c).2 != 0) = true := by simpa using hz
              have HEQ : Um.growAll s p b y m = ([], (Um.behR s p c).2) := by
                rw [HGA.out, hgr.out, Um.grow_fault hz]
                have := (Um.nextN_fault s p c s.length).resolve_left hz
                unfold Um.behR
                rw [this]
              have HEQH := hid HEQ
              clear HEQ hz hgr HGA hrc hy0 hy1
              generalize Um.behR s p c = Z at *
              go_upto_region 17 with (go_at_call 13; refine (HNX _ (hF.lf hf2) (hF.ls hp2) hc).out.mono ?_; rintro e wn ⟨r1, rfl, hw, hb⟩; replace hc := hc.step hb; replace hF := hF.step hb; clear hb; clear y0 y1; have y0 := (hF.below.cell (p := ⟨w.heap.size, 0, none⟩) h1).trans c0; have y1 := (hF.below.cell (p := ⟨w.heap.size, 1, none⟩) h1).trans c1; obtain ⟨s1, d1, rfl, -⟩ := (id hw); clear HNX)
              go_upto_region 31 with fail
              have HEQ := HEQH.out
              clear HEQH hc hw
              obtain ⟨AL, hAL⟩ : ∃ AL : List (Int × Int), AL = [] := ⟨_, rfl⟩
              rw [← hAL] at HEQ
              have HGR := fun w h1 h2 h3 => hid (grow_as HEQ (.slice a0 s.length cap0) (.slice a1 p.length cap1) (.slice a2 b.length cap2) w h1 h2 h3)
              have hv : Ls wn.heap.size wn (.slice none 0 0) AL := by rw [hAL]; exact Ls.nil _ _
              have HAL : Hid (AL.length ≤ 1000) := by rw [hAL]; exact hid (by decide)
              clear HEQ hAL
              go_upto_region 32 with (go_at_call 21; refine (HGR _ (hF.lf hf2) (hF.ls hp2) (hF.ls hb2)).out.mono ?_; rintro e wn ⟨r4, rfl, hh, hb⟩; replace hv := hv.step hb; replace hF := hF.step hb; clear hb; clear y0 y1; have y0 := (hF.below.cell (p := ⟨w.heap.size, 0, none⟩) h1).trans c0; have y1 := (hF.below.cell (p := ⟨w.heap.size, 1, none⟩) h1).trans c1; obtain ⟨s4, d4, rfl, -⟩ := (id hh); clear HGR)
              go_upto_region 33 with (first | (go_at_call 10; refine (hid (same_any _ _ _ (hg.below (B := w.heap.size) (hBW.trans (hF.below.mono hBW.size)) hg.size))).out.mono ?_; rintro e wn ⟨rfl, hb⟩; replace hv := hv.step hb; replace hh := hh.step hb; replace hF := hF.step hb; clear hb; clear y0 y1; have y0 := (hF.below.cell (p := ⟨w.heap.size, 0, none⟩) h1).trans c0; have y1 := (hF.below.cell (p := ⟨w.heap.size, 1, none⟩) h1).trans c1) | (go_at_call 16; refine (hid (box_same AL _ _ _ hh hv HAL.out)).out.mono ?_; rintro e wn ⟨rfl, hb⟩; replace hF := hF.step hb; clear hb; clear y0 y1; have y0 := (hF.below.cell (p := ⟨w.heap.size, 0, none⟩) h1).trans c0; have y1 := (hF.below.cell (p := ⟨w.heap.size, 1, none⟩) h1).trans c1; clear hh hv))
              go_wp2
              go_returns
              exact ⟨rfl, hBW.trans (hF.below.mono hBW.size)⟩
          · have HEQ : Um.growAll s p b y m = ([], 4) := by rw [HGA.out, hgr.out]
            obtain ⟨AL, hAL⟩ : ∃ AL : List (Int × Int), AL = [] := ⟨_, rfl⟩
            rw [← hAL] at HEQ
            have HGR := fun w h1 h2 h3 => hid (grow_as HEQ (.slice a0 s.length cap0) (.slice a1 p.length cap1) (.slice a2 b.length cap2) w h1 h2 h3)
            have hv : Ls wr.heap.size wr (.slice none 0 0) AL := by rw [hAL]; exact Ls.nil _ _
            have HAL : Hid (AL.length ≤ 1000) := by rw [hAL]; exact hid (by decide)
            clear HEQ hAL hgr HGA hc hy0 hy1
            by_cases hkl : k ≤ m
            · have hkk : decide ((k : Int) ≤ (m : Int)) = true := decide_eq_true (by omega)
              go_upto_region 31 with fail
              go_upto_region 32 with (go_at_call 21; refine (HGR _ (hF.lf hf2) (hF.ls hp2) (hF.ls hb2)).out.mono ?_; rintro e wn ⟨r4, rfl, hh, hb⟩; replace hv := hv.step hb; replace hF := hF.step hb; clear hb; clear y0 y1; have y0 := (hF.below.cell (p := ⟨w.heap.size, 0, none⟩) h1).trans c0; have y1 := (hF.below.cell (p := ⟨w.heap.size, 1, none⟩) h1).trans c1; obtain ⟨s4, d4, rfl, -⟩ := (id hh); clear HGR)
              go_upto_region 33 with (first | (go_at_call 10; refine (hid (same_any _ _ _ (hg.below (B := w.heap.size) (hBW.trans (hF.below.mono hBW.size)) hg.size))).out.mono ?_; rintro e wn ⟨rfl, hb⟩; replace hv := hv.step hb; replace hh := hh.step hb; replace hF := hF.step hb; clear hb; clear y0 y1; have y0 := (hF.below.cell (p := ⟨w.heap.size, 0, none⟩) h1).trans c0; have y1 := (hF.below.cell (p := ⟨w.heap.size, 1, none⟩) h1).trans c1) | (go_at_call 16; refine (hid (box_same AL _ _ _ hh hv HAL.out)).out.mono ?_; rintro e wn ⟨rfl, hb⟩; replace hF := hF.step hb; clear hb; clear y0 y1; have y0 := (hF.below.cell (p := ⟨w.heap.size, 0, none⟩) h1).trans c0; have y1 := (hF.below.cell (p := ⟨w.heap.size, 1, none⟩) h1).trans c1; clear hh hv))
              go_wp2
              go_returns
              exact ⟨rfl, hBW.trans (hF.below.mono hBW.size)⟩
            · have hkk : decide ((k : Int) ≤ (m : Int)) = false := decide_eq_false (by omega)
              go_upto_region 31 with fail
              go_upto_region 32 with (go_at_call 21; refine (HGR _ (hF.lf hf2) (hF.ls hp2) (hF.ls hb2)).out.mono ?_; rintro e wn ⟨r4, rfl, hh, hb⟩; replace hv := hv.step hb; replace hF := hF.step hb; clear hb; clear y0 y1; have y0 := (hF.below.cell (p := ⟨w.heap.size, 0, none⟩) h1).trans c0; have y1 := (hF.below.cell (p := ⟨w.heap.size, 1, none⟩) h1).trans c1; obtain ⟨s4, d4, rfl, -⟩ := (id hh); clear HGR)
              go_upto_region 33 with (first | (go_at_call 10; refine (hid (same_any _ _ _ (hg.below (B := w.heap.size) (hBW.trans (hF.below.mono hBW.size)) hg.size))).out.mono ?_; rintro e wn ⟨rfl, hb⟩; replace hv := hv.step hb; replace hh := hh.step hb; replace hF := hF.step hb; clear hb; clear y0 y1; have y0 := (hF.below.cell (p := ⟨w.heap.size, 0, none⟩) h1).trans c0; have y1 := (hF.below.cell (p := ⟨w.heap.size, 1, none⟩) h1).trans c1) | (go_at_call 16; refine (hid (box_same AL _ _ _ hh hv HAL.out)).out.mono ?_; rintro e wn ⟨rfl, hb⟩; replace hF := hF.step hb; clear hb; clear y0 y1; have y0 := (hF.below.cell (p := ⟨w.heap.size, 0, none⟩) h1).trans c0; have y1 := (hF.below.cell (p := ⟨w.heap.size, 1, none⟩) h1).trans c1; clear hh hv))
              go_wp2
              go_returns
              exact ⟨rfl, hBW.trans (hF.below.mono hBW.size)⟩
      · have kz : (GF == 0) = false := by simpa using hz2
        have kz2 : (GF != 0) = true := by simpa using hz2
        have HEQ : Um.growAll s p b y n = ([], GF) := by unfold Um.growAll; rw [← HGF.out, if_neg hz2]
        obtain ⟨AL, hAL⟩ : ∃ AL : List (Int × Int), AL = [] := ⟨_, rfl⟩
        rw [← hAL] at HEQ
        have HGR := fun w h1 h2 h3 => hid (grow_as HEQ (.slice a0 s.length cap0) (.slice a1 p.length cap1) (.slice a2 b.length cap2) w h1 h2 h3)
        have hv : Ls wc.heap.size wc (.slice none 0 0) AL := by rw [hAL]; exact Ls.nil _ _
        have HAL : Hid (AL.length ≤ 1000) := by rw [hAL]; exact hid (by decide)
        clear HEQ hAL hz2 HGF HRF
        have y0 := (hF.below.cell (p := ⟨w.heap.size, 0, none⟩) h1).trans c0
        have y1 := (hF.below.cell (p := ⟨w.heap.size, 1, none⟩) h1).trans c1
        by_cases hkl : 0 ≤ n
        · have hkk : decide (0 ≤ n) = true := decide_eq_true hkl
          clear hkl
          go_wp2
          refine wp_loop_rounds 1 ?_
          rw [rounds_succ]
          go_upto_region 31 with fail
          go_upto_region 32 with (go_at_call 21; refine (HGR _ (hF.lf hf2) (hF.ls hp2) (hF.ls hb2)).out.mono ?_; rintro e wn ⟨r4, rfl, hh, hb⟩; replace hv := hv.step hb; replace hF := hF.step hb; clear hb; clear y0 y1; have y0 := (hF.below.cell (p := ⟨w.heap.size, 0, none⟩) h1).trans c0; have y1 := (hF.below.cell (p := ⟨w.heap.size, 1, none⟩) h1).trans c1; obtain ⟨s4, d4, rfl, -⟩ := (id hh); clear HGR)
          go_upto_region 33 with (first | (go_at_call 10; refine (hid (same_any _ _ _ (hg.below (B := w.heap.size) (hBW.trans (hF.below.mono hBW.size)) hg.size))).out.mono ?_; rintro e wn ⟨rfl, hb⟩; replace hv := hv.step hb; replace hh := hh.step hb; replace hF := hF.step hb; clear hb; clear y0 y1; have y0 := (hF.below.cell (p := ⟨w.heap.size, 0, none⟩) h1).trans c0; have y1 := (hF.below.cell (p := ⟨w.heap.size, 1, none⟩) h1).trans c1) | (go_at_call 16; refine (hid (box_same AL _ _ _ hh hv HAL.out)).out.mono ?_; rintro e wn ⟨rfl, hb⟩; replace hF := hF.step hb; clear hb; clear y0 y1; have y0 := (hF.below.cell (p := ⟨w.heap.size, 0, none⟩) h1).trans c0; have y1 := (hF.below.cell (p := ⟨w.heap.size, 1, none⟩) h1).trans c1; clear hh hv))
          go_wp2
          go_returns
          exact ⟨rfl, hBW.trans (hF.below.mono hBW.size)⟩
        · have hkk : decide (0 ≤ n) = false := decide_eq_false hkl
          clear hkl
          go_wp2
          refine wp_loop_rounds 1 ?_
          rw [rounds_succ]
          go_upto_region 31 with fail
          go_upto_region 32 with (go_at_call 21; refine (HGR _ (hF.lf hf2) (hF.ls hp2) (hF.ls hb2)).out.mono ?_; rintro e wn ⟨r4, rfl, hh, hb⟩; replace hv := hv.step hb; replace hF := hF.step hb; clear hb; clear y0 y1; have y0 := (hF.below.cell (p := ⟨w.heap.size, 0, none⟩) h1).trans c0; have y1 := (hF.below.cell (p := ⟨w.heap.size, 1, none⟩) h1).trans c1; obtain ⟨s4, d4, rfl, -⟩ := (id hh); clear HGR)
          go_upto_region 33 with (first | (go_at_call 10; refine (hid (same_any _ _ _ (hg.below (B := w.heap.size) (hBW.trans (hF.below.mono hBW.size)) hg.size))).out.mono ?_; rintro e wn ⟨rfl, hb⟩; replace hv := hv.step hb; replace hh := hh.step hb; replace hF := hF.step hb; clear hb; clear y0 y1; have y0 := (hF.below.cell (p := ⟨w.heap.size, 0, none⟩) h1).trans c0; have y1 := (hF.below.cell (p := ⟨w.heap.size, 1, none⟩) h1).trans c1) | (go_at_call 16; refine (hid (box_same AL _ _ _ hh hv HAL.out)).out.mono ?_; rintro e wn ⟨rfl, hb⟩; replace hF := hF.step hb; clear hb; clear y0 y1; have y0 := (hF.below.cell (p := ⟨w.heap.size, 0, none⟩) h1).trans c0; have y1 := (hF.below.cell (p := ⟨w.heap.size, 1, none⟩) h1).trans c1; clear hh hv))
          go_wp2
          go_returns
          exact ⟨rfl, hBW.trans (hF.below.mono hBW.size)⟩
end Go.Proofs.YtkeoafbkbblnaaaDoor.HlTells
