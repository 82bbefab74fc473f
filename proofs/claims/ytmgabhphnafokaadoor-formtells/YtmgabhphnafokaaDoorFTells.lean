/-
  The walk over 'spanlaw2.FormTells': for all f, sides, b, x it returns true.
-/
import Derived.Test.YtmgabhphnafokaaDoorForm
import Derived.Test.YtmgabhphnafokaaDoorRefAt
import Derived.Test.YtmgabhphnafokaaDoorRefBoxC
import Derived.Test.YtmgabhphnafokaaDoorSame
import Derived.Deep.CutRange
namespace Go.Proofs.YtmgabhphnafokaaDoor.FTells
set_option linter.unusedSimpArgs false
open Go.RowKit

theorem form_below {f : List Um.Tm} (sides : Int) {v : Value} (w : World) (hl : Lt w.heap.size w v f) : Calls Tryd.prog 22 #[v, .int .i64 sides] w fun e w' => e = .returned (.int .i64 (Um.formF f sides)) ∧ w' = w := rForm_any f sides v w hl
theorem fr_not {f : List Um.Tm} {b : List (Int × Int)} (h : ¬ Um.frF f b = 0) : Um.frAll f b = (0, 0, Um.frF f b) := by unfold Um.frAll; rw [if_neg h]
theorem fr_yes {f : List Um.Tm} {b : List (Int × Int)} (h : Um.frF f b = 0) : Um.frAll f b = Um.frR f b := by unfold Um.frAll; rw [if_pos h]
theorem at_not {f : List Um.Tm} {x : List Int} (h : ¬ Um.atF f x = 0) : Um.atAll f x = (0, Um.atF f x) := by unfold Um.atAll; rw [if_neg h]
theorem at_yes {f : List Um.Tm} {x : List Int} (h : Um.atF f x = 0) : Um.atAll f x = Um.ptR f x := by unfold Um.atAll; rw [if_pos h]

set_option maxRecDepth 100000 in
set_option maxHeartbeats 16000000 in
theorem walk (f : List Um.Tm) (u : Value) (sides : Int) (b : List (Int × Int)) (v : Value) (x : List Int) (t : Value) (w : World) (hg : HasErr w) (hl : Lt w.heap.size w u f) (hs : Ls w.heap.size w v b) (hx : Li w.heap.size w t x) :
    Calls Tryd.prog 4 #[u, .int .i64 sides, v, t] w fun e w' => e = .returned (.bool true) ∧ Below w.heap.size w w' := by
  have v0 := errV_none
  have q1 := errG
  have q2 := errGn
  have q3 := errE
  have q4 := errN
  have hF := Fr.start w
  obtain ⟨a0, ca, rfl, -⟩ := (id hl)
  obtain ⟨b0, cb, rfl, -⟩ := (id hs)
  obtain ⟨x0, cx, rfl, -⟩ := (id hx)
  have HFO := fun n w h => hid (rForm_any f n (.slice a0 f.length ca) w h)
  have HF1 := fun w h => HFO sides w h
  have HF2 := fun w h => HFO b.length w h
  have HF3 := fun w h => HFO x.length w h
  have HCK := fun w h => hid (fcheck_any f sides (.slice a0 f.length ca) w h)
  have HBX := fun w h => hid (rBox_any b (.slice b0 b.length cb) w h)
  have HRA0 := fun e w h1 h2 => hid (rFr_any f (.slice a0 f.length ca) b (.slice b0 b.length cb) w h1 h2 e)
  have HFR := fun w h1 h2 => hid (frange_any f (.slice a0 f.length ca) b (.slice b0 b.length cb) w h1 h2)
  have HNU := fun w h h3 => hid (rNumbers_any x (.slice x0 x.length cx) w h h3)
  have HPO0 := fun e w h1 h2 => hid (rPoint_any f (.slice a0 f.length ca) x (.slice x0 x.length cx) w h1 h2 e)
  have HFA := fun w h1 h2 => hid (fat_any f (.slice a0 f.length ca) x (.slice x0 x.length cx) w h1 h2)
  have E1 : Hid (Um.frF f b = if Um.boxF b = 0 then Um.formF f b.length else Um.boxF b) := hid rfl
  have E2 : Hid (Um.atF f x = if Um.formF f x.length = 0 then Um.numsF x else Um.formF f x.length) := hid rfl
  have E3 : Hid (Um.frF f b = 0 → Um.frAll f b = Um.frR f b) := fr_yes
  have E4 : Hid (¬ Um.frF f b = 0 → Um.frAll f b = (0, 0, Um.frF f b)) := fr_not
  have E5 : Hid (Um.atF f x = 0 → Um.atAll f x = Um.ptR f x) := at_yes
  have E6 : Hid (¬ Um.atF f x = 0 → Um.atAll f x = (0, Um.atF f x)) := at_not
  have E7 : Hid (Um.formF f x.length = 0 → x.length ≤ 3) := fun h => by have := (Um.form_ok.1 h).1.2; omega
  clear HFO
  generalize Um.formF f sides = G1 at *
  generalize Um.formF f b.length = G2 at *
  generalize Um.formF f x.length = G3 at *
  generalize Um.boxF b = K at *
  generalize Um.frF f b = FF at *
  generalize Um.atF f x = AF at *
  generalize Um.numsF x = NF at *
  generalize Um.frAll f b = FA at *
  generalize Um.frR f b = FR at *
  generalize Um.atAll f x = AA at *
  generalize Um.ptR f x = PR at *
  go_enter Tryd.func4, Tryd.ntmps4
  go_upto_region 2 with (go_at_call 22; refine (HF1 _ (hF.lt hl)).out.mono ?_; rintro e wn ⟨rfl, hq⟩; subst wn)
  go_upto_region 3 with (first | (go_at_call 23; refine (HCK _ (hF.lt hl)).out.mono ?_; rintro e wn ⟨rfl, hb⟩; replace hF := hF.step hb; clear hb; clear HCK) | (go_at_call 8; refine (hid (same_any _ _ _ (hg.below (B := w.heap.size) hF.below hg.size))).out.mono ?_; rintro e wn ⟨rfl, hb⟩; replace hF := hF.step hb; clear hb))
  go_upto_if 29 with (go_at_call 7; refine (HBX _ (hF.ls hs)).out.mono ?_; rintro e wn ⟨rfl, hb⟩; replace hF := hF.step hb; clear hb; clear HBX)
  go_cut [9] from 18 to 33 (fun e w1 => e = .int .i64 FF ∧ Fr w w1 [])
  case first =>
    clear HRA0 HFR HNU HPO0 HFA E2 E3 E4 E5 E6 E7
    have e1 := E1.out
    clear E1
    by_cases h : K = 0
    · rw [if_pos h] at e1
      have k : (K == 0) = true := by simpa using h
      subst e1
      clear h
      go_wp2_with (go_at_call 22; refine (HF2 _ (hF.lt hl)).out.mono ?_; rintro e wn ⟨rfl, hq⟩; subst wn)
      go_meet
      case rel => exact ⟨rfl, hF⟩
    · rw [if_neg h] at e1
      have k : (K == 0) = false := by simpa using h
      subst e1
      clear h
      go_wp2
      go_meet
      case rel => exact ⟨rfl, hF⟩
  case rest =>
    clear hF HF1 HF2 E1
    obtain ⟨rfl, hF⟩ := hcut
    replace hF := hF.push 0 0 rfl
    go_upto_if 35 with fail
    go_cut [9, 11] from 34 to 41 (fun e p w2 => ∃ B, e = .int .i64 FA.2.2 ∧ p = .pointer (some ⟨B, 0, none⟩) ∧ Fr w w2 [(B, FA.1, FA.2.1)])
    case first =>
      clear HFR HNU HPO0 HFA E2 E5 E6 E7 HF3
      by_cases h : FF = 0
      · have e1 := E3.out h
        have HRA := fun w h1 h2 => HRA0 h w h1 h2
        have k : (FF == 0) = true := by simpa using h
        clear E3 E4 h HRA0
        subst e1
        go_wp2_with (go_at_call 24; refine (HRA _ (hF.lt hl) (hF.ls hs)).out.mono ?_; rintro e wn ⟨rfl, hb⟩; replace hF := hF.step hb; clear hb; clear HRA; have y1 := (hF.at 0 rfl).fl; have y2 := (hF.at 0 rfl).fh; have y3 := (hF.at 0 rfl).lo; have y4 := (hF.at 0 rfl).hi; have y6 := (hF.at 0 rfl).r0; have y7 := (hF.at 0 rfl).r1)
        go_meet
        case rel => exact ⟨_, rfl, rfl, hF.put 0 rfl _ _ rfl⟩
      · have e1 := E4.out h
        have k : (FF == 0) = false := by simpa using h
        clear E3 E4 h HRA0
        subst e1
        go_wp2
        go_meet
        case rel => exact ⟨_, rfl, rfl, hF⟩
    case rest =>
      clear hF HRA0 E3 E4
      obtain ⟨B0, rfl, rfl, hF⟩ := hcut
      go_upto_region 10 with (go_at_call 25; refine (HFR _ (hF.lt hl) (hF.ls hs)).out.mono ?_; rintro e wn ⟨rfl, hb⟩; replace hF := hF.step hb; clear hb; clear HFR; replace hF := hF.push FA.1 FA.2.1 rfl)
      go_upto_region 11 with (go_at_call 8; refine (hid (same_any _ _ _ (hg.below (B := w.heap.size) hF.below hg.size))).out.mono ?_; rintro e wn ⟨rfl, hb⟩; replace hF := hF.step hb; clear hb; have x0l := (hF.at 0 rfl).lo; have x0h := (hF.at 0 rfl).hi; have x1l := (hF.at 1 rfl).lo; have x1h := (hF.at 1 rfl).hi)
      clear x0l x0h x1l x1h
      go_upto_if 61 with (go_at_call 22; refine (HF3 _ (hF.lt hl)).out.mono ?_; rintro e wn ⟨rfl, hq⟩; subst wn)
      go_cut [9] from 42 to 63 (fun e w3 => e = .int .i64 AF ∧ Fr w w3 [])
      case first =>
        clear HPO0 HFA E5 E6
        have e1 := E2.out
        clear E2
        by_cases h : G3 = 0
        · rw [if_pos h] at e1
          have h3 := E7.out h
          have k : (G3 == 0) = true := by simpa using h
          subst e1
          clear h
          go_wp2_with (go_at_call 26; refine (HNU _ (hF.li hx) h3).out.mono ?_; rintro e wn ⟨rfl, hq⟩; subst wn)
          go_meet
          case rel => exact ⟨rfl, hF.drop.drop⟩
        · rw [if_neg h] at e1
          have k : (G3 == 0) = false := by simpa using h
          subst e1
          clear h
          go_wp2
          go_meet
          case rel => exact ⟨rfl, hF.drop.drop⟩
      case rest =>
        clear hF HF3 HNU E2 E7
        obtain ⟨rfl, hF⟩ := hcut
        go_upto_if 65 with fail
        go_cut [9, 15] from 64 to 71 (fun e n w4 => e = .int .i64 AA.2 ∧ n = .int .i64 AA.1 ∧ Fr w w4 [])
        case first =>
          clear HFA
          by_cases h : AF = 0
          · have e1 := E5.out h
            have HPO := fun w h1 h2 => HPO0 h w h1 h2
            have k : (AF == 0) = true := by simpa using h
            clear E5 E6 h HPO0
            subst e1
            go_wp2_with (go_at_call 27; refine (HPO _ (hF.lt hl) (hF.li hx)).out.mono ?_; rintro e wn ⟨rfl, hq⟩; subst wn)
            go_meet
            case rel => exact ⟨rfl, rfl, hF⟩
          · have e1 := E6.out h
            have k : (AF == 0) = false := by simpa using h
            clear E5 E6 h HPO0
            subst e1
            go_wp2
            go_meet
            case rel => exact ⟨rfl, rfl, hF⟩
        case rest =>
          clear hF HPO0 E5 E6
          obtain ⟨rfl, rfl, hF⟩ := hcut
          go_wp2_with (first | (go_at_call 28; refine (HFA _ (hF.lt hl) (hF.li hx)).out.mono ?_; rintro e wn ⟨rfl, hb⟩; replace hF := hF.step hb; clear hb; clear HFA) | (go_at_call 8; refine (hid (same_any _ _ _ (hg.below (B := w.heap.size) hF.below hg.size))).out.mono ?_; rintro e wn ⟨rfl, hb⟩; replace hF := hF.step hb; clear hb))
          go_returns
          exact ⟨rfl, hF.below⟩
end Go.Proofs.YtmgabhphnafokaaDoor.FTells
