/-
  The walk over 'spanlaw2.NarrowTells': for all x, y, z it returns true.
-/
import Derived.Test.YtomkekapgcpihaaDoorNarrow
import Derived.Test.YtomkekapgcpihaaDoorNstep
import Derived.Test.YtomkekapgcpihaaDoorRefSpan
import Derived.Test.YtomkekapgcpihaaDoorMems
import Derived.Test.YtomkekapgcpihaaDoorSame
import Derived.Deep.CutRange
namespace Go.Proofs.YtomkekapgcpihaaDoor.NwTells
set_option linter.unusedSimpArgs false
open Go.RowKit

theorem fin_fault (e : Int) (A B C : Int × Int × Int) : (Um.fin3 e A B C).2.2.2 = e := by
  unfold Um.fin3
  by_cases h : e = 0
  · rw [if_pos h, h]
  · rw [if_neg h]; rfl
theorem fin_yes {e : Int} {A B C : Int × Int × Int} (h : e = 0) : Um.fin3 e A B C = ((A.1, A.2.1), (B.1, B.2.1), (C.1, C.2.1), 0) := by unfold Um.fin3; rw [if_pos h]
theorem fin_not {e : Int} {A B C : Int × Int × Int} (h : ¬ e = 0) : Um.fin3 e A B C = Um.no3 e := by unfold Um.fin3; rw [if_neg h]
theorem chk_may {l h : Int} (c : Um.chk l h = 0) : Um.may l = true ∧ Um.may h = true ∧ l ≤ h := Um.chk_ok.1 c

set_option maxRecDepth 100000 in
set_option maxHeartbeats 32000000 in
theorem walk (xl xh yl yh zl zh : Int) (w : World) (hg : HasErr w) :
    Calls Tryd.prog 3 #[.agg #[.int .i64 xl, .int .i64 xh], .agg #[.int .i64 yl, .int .i64 yh], .agg #[.int .i64 zl, .int .i64 zh]] w fun e w' => e = .returned (.bool true) ∧ Below w.heap.size w w' := by
  have v0 := errV_none
  have q1 := errG
  have q2 := errGn
  have q3 := errE
  have q4 := errN
  have hF := (((Fr.start w).push xl xh rfl).push (b := w.heap.size + 1) yl yh (by simp)).push (b := w.heap.size + 1 + 1) zl zh (by simp)
  have x0l := (hF.at 2 rfl).lo
  have x0h := (hF.at 2 rfl).hi
  have x1l := (hF.at 1 rfl).lo
  have x1h := (hF.at 1 rfl).hi
  have HSM := fun w => hid (nwSum_any xl xh yl yh zl zh w)
  have HTM := fun w => hid (nwTimes_any xl xh yl yh zl zh w)
  have HTW := fun w => hid (rTwo_any xl xh yl yh w)
  have HSP := fun w => hid (rSpan_any zl zh w)
  obtain ⟨E0, h0⟩ : ∃ E, E = Um.narF xl xh yl yh zl zh := ⟨_, rfl⟩
  obtain ⟨T1, h1⟩ : ∃ T, T = Um.stp E0 (0, 0) (Um.addR xl xh yl yh) := ⟨_, rfl⟩
  obtain ⟨T2, h2⟩ : ∃ T, T = Um.stp T1.2.2 (zl, zh) (Um.meetR zl zh T1.1 T1.2.1) := ⟨_, rfl⟩
  obtain ⟨T3, h3⟩ : ∃ T, T = Um.stp T2.2.2 (T1.1, T1.2.1) (Um.lessR T2.1 T2.2.1 yl yh) := ⟨_, rfl⟩
  obtain ⟨T4, h4⟩ : ∃ T, T = Um.stp T3.2.2 (xl, xh) (Um.meetR xl xh T3.1 T3.2.1) := ⟨_, rfl⟩
  obtain ⟨T5, h5⟩ : ∃ T, T = Um.stp T4.2.2 (T3.1, T3.2.1) (Um.lessR T2.1 T2.2.1 T4.1 T4.2.1) := ⟨_, rfl⟩
  obtain ⟨T6, h6⟩ : ∃ T, T = Um.stp T5.2.2 (yl, yh) (Um.meetR yl yh T5.1 T5.2.1) := ⟨_, rfl⟩
  obtain ⟨U1, j1⟩ : ∃ T, T = Um.stp E0 (T5.1, T5.2.1) (Um.stimesR xl xh yl yh) := ⟨_, rfl⟩
  obtain ⟨U2, j2⟩ : ∃ T, T = Um.stp U1.2.2 (zl, zh) (Um.meetR zl zh U1.1 U1.2.1) := ⟨_, rfl⟩
  obtain ⟨V1, j3⟩ : ∃ T, T = Um.bk U2.2.2 (xl, xh) U2.1 U2.2.1 yl yh := ⟨_, rfl⟩
  obtain ⟨V2, j4⟩ : ∃ T, T = Um.bk V1.2.2 (yl, yh) U2.1 U2.2.1 V1.1 V1.2.1 := ⟨_, rfl⟩
  have HG := hid (Um.sum_steps h0 h1 h2 h3 h4 h5 h6)
  have HG2 := hid (Um.times_steps h0 j1 j2 j3 j4)
  have HE0 := hid h0
  have HT1 := hid h1
  have HT2 := hid h2
  have HT3 := hid h3
  have HT4 := hid h4
  have HT5 := hid h5
  have HT6 := hid h6
  have HU1 := hid j1
  have HU2 := hid j2
  have HV1 := hid j3
  have HV2 := hid j4
  obtain ⟨D, d1⟩ : ∃ D, D = Um.nsumAll xl xh yl yh zl zh := ⟨_, rfl⟩
  obtain ⟨D2, d2⟩ : ∃ D, D = Um.ntimesAll xl xh yl yh zl zh := ⟨_, rfl⟩
  have HD := hid (d1.trans HG.out.2.2.2)
  have HD2 := hid (d2.trans HG2.out.2.2.2)
  rw [← d1] at HSM
  rw [← d2] at HTM
  clear h0 h1 h2 h3 h4 h5 h6 j1 j2 j3 j4 d1 d2
  go_enter Tryd.func3, Tryd.ntmps3
  go_upto_if 24 with (go_at_call 6; refine (HTW _).out.mono ?_; rintro e wn ⟨rfl, hb⟩; replace hF := hF.step hb; clear hb; clear HTW x0l x0h x1l x1h; have x2l := (hF.at 0 rfl).lo; have x2h := (hF.at 0 rfl).hi)
  go_cut [7] from 20 to 26 (fun v wr => v = .int .i64 E0 ∧ Fr w wr [(w.heap.size + 1 + 1, zl, zh), (w.heap.size + 1, yl, yh), (w.heap.size, xl, xh)])
  case first =>
    clear HSM HTM
    by_cases h : Um.two xl xh yl yh = 0
    · have k : (Um.two xl xh yl yh == 0) = true := by simpa using h
      have ET := hid (HE0.out.trans (Um.two_nar (zl := zl) (zh := zh) h))
      clear h HE0 HG HD HT1 HT2 HT3 HT4 HT5 HT6 HG2 HD2 HU1 HU2 HV1 HV2
      generalize Um.two xl xh yl yh = G at *
      go_wp2_with (go_at_call 7; refine (HSP _).out.mono ?_; rintro e wn ⟨rfl, rfl⟩; replace hF := (hF.alloc (.cells #[.int .i64 zl, .int .i64 zh] 23)).alloc (.cells #[.int .i64 zl, .int .i64 zh] 23))
      go_meet
      case rel => rw [ET.out]; exact ⟨rfl, hF⟩
    · have k : (Um.two xl xh yl yh == 0) = false := by simpa using h
      have ET := hid (HE0.out.trans (Um.two_not (zl := zl) (zh := zh) h))
      clear h HE0 HG HD HT1 HT2 HT3 HT4 HT5 HT6 HG2 HD2 HU1 HU2 HV1 HV2 HSP
      generalize Um.two xl xh yl yh = G at *
      go_wp2
      go_meet
      case rel => rw [ET.out]; exact ⟨rfl, hF⟩
  case rest =>
    clear hF HSP x2l x2h
    obtain ⟨rfl, hF⟩ := hcut
    have x0l := (hF.at 2 rfl).lo
    have x0h := (hF.at 2 rfl).hi
    have x1l := (hF.at 1 rfl).lo
    have x1h := (hF.at 1 rfl).hi
    have x2l := (hF.at 0 rfl).lo
    have x2h := (hF.at 0 rfl).hi
    have x3l := ((hF.push xl xh rfl).at 2 rfl).lo
    have x3h := ((hF.push xl xh rfl).at 2 rfl).hi
    have x4l := (((hF.push xl xh rfl).push yl yh rfl).at 2 rfl).lo
    have x4h := (((hF.push xl xh rfl).push yl yh rfl).at 2 rfl).hi
    go_upto_region 9 with fail
    clear x0l x0h x1l x1h x2l x2h x3l x3h x4l x4h
    replace hF := (((hF.push (b := wc.heap.size) xl xh rfl).push (b := wc.heap.size + 1) yl yh (by simp)).push (b := wc.heap.size + 1 + 1) zl zh (by simp)).push (b := wc.heap.size + 1 + 1 + 1) 0 0 (by simp)
    generalize (((wc.alloc (.cells #[.int .i64 xl, .int .i64 xh] 23)).alloc (.cells #[.int .i64 yl, .int .i64 yh] 23)).alloc (.cells #[.int .i64 zl, .int .i64 zh] 23)).alloc (.cells #[.int .i64 0, .int .i64 0] 23) = W0 at *
    generalize wc.heap.size = BA at *
    generalize BA + 1 + 1 + 1 = BT at *
    generalize BA + 1 + 1 = BC at *
    generalize BA + 1 = BB at *
    go_upto_if 32 with fail
    go_cut [7] from 31 to 38 (fun v wr => v = .int .i64 T1.2.2 ∧ Fr w wr [(BT, T1.1, T1.2.1), (BC, zl, zh), (BB, yl, yh), (BA, xl, xh), (w.heap.size + 1 + 1, zl, zh), (w.heap.size + 1, yl, yh), (w.heap.size, xl, xh)])
    case first =>
      clear HSM HTM
      by_cases h : E0 = 0
      · have k : (E0 == 0) = true := by simpa using h
        have ET := hid (HT1.out.trans (Um.stp_yes h))
        obtain ⟨c1, c2⟩ := HG.out.1 h
        obtain ⟨m1, m2, -⟩ := chk_may c1
        obtain ⟨m3, m4, -⟩ := chk_may c2
        have HC := fun w => hid (rAdd_any xl xh yl yh w m1 m2 m3 m4)
        rw [← ET.out] at HC
        clear h ET HE0 HG HD HT1 HT2 HT3 HT4 HT5 HT6 HG2 HD2 HU1 HU2 HV1 HV2
        have x2l := (hF.at 2 rfl).lo
        have x2h := (hF.at 2 rfl).hi
        have x3l := (hF.at 3 rfl).lo
        have x3h := (hF.at 3 rfl).hi
        go_wp2_with (go_at_call 8; refine (HC _).out.mono ?_; rintro e wn ⟨rfl, hb⟩; replace hF := hF.step hb; clear hb; clear x2l x2h x3l x3h; have y1 := (hF.at 0 rfl).fl; have y2 := (hF.at 0 rfl).fh; have y3 := (hF.at 0 rfl).lo; have y4 := (hF.at 0 rfl).hi)
        go_meet
        case rel => exact ⟨rfl, hF.put 0 rfl _ _ rfl⟩
      · have k : (E0 == 0) = false := by simpa using h
        have ET := hid (HT1.out.trans (Um.stp_not h))
        clear h HE0 HG HD HT1 HT2 HT3 HT4 HT5 HT6 HG2 HD2 HU1 HU2 HV1 HV2
        go_wp2
        go_meet
        case rel => rw [ET.out]; exact ⟨rfl, hF⟩
    case rest =>
      clear hF
      obtain ⟨rfl, hF⟩ := hcut
      go_upto_if 40 with fail
      go_cut [7] from 39 to 46 (fun v wr => v = .int .i64 T2.2.2 ∧ Fr w wr [(BT, T1.1, T1.2.1), (BC, T2.1, T2.2.1), (BB, yl, yh), (BA, xl, xh), (w.heap.size + 1 + 1, zl, zh), (w.heap.size + 1, yl, yh), (w.heap.size, xl, xh)])
      case first =>
        clear HSM HTM
        by_cases h : T1.2.2 = 0
        · have k : (T1.2.2 == 0) = true := by simpa using h
          have ET := hid (HT2.out.trans (Um.stp_yes h))
          skip
          have HC := fun w => hid (rMeet_any zl zh T1.1 T1.2.1 w)
          rw [← ET.out] at HC
          clear h ET HE0 HG HD HT1 HT2 HT3 HT4 HT5 HT6 HG2 HD2 HU1 HU2 HV1 HV2
          have x0l := (hF.at 0 rfl).lo
          have x0h := (hF.at 0 rfl).hi
          have x1l := (hF.at 1 rfl).lo
          have x1h := (hF.at 1 rfl).hi
          go_wp2_with (go_at_call 9; refine (HC _).out.mono ?_; rintro e wn ⟨rfl, hb⟩; replace hF := hF.step hb; clear hb; clear x0l x0h x1l x1h; have y1 := (hF.at 1 rfl).fl; have y2 := (hF.at 1 rfl).fh; have y3 := (hF.at 1 rfl).lo; have y4 := (hF.at 1 rfl).hi)
          go_meet
          case rel => exact ⟨rfl, hF.put 1 rfl _ _ rfl⟩
        · have k : (T1.2.2 == 0) = false := by simpa using h
          have ET := hid (HT2.out.trans (Um.stp_not h))
          clear h HE0 HG HD HT1 HT2 HT3 HT4 HT5 HT6 HG2 HD2 HU1 HU2 HV1 HV2
          go_wp2
          go_meet
          case rel => rw [ET.out]; exact ⟨rfl, hF⟩
      case rest =>
        clear hF
        obtain ⟨rfl, hF⟩ := hcut
        go_upto_if 48 with fail
        go_cut [7] from 47 to 54 (fun v wr => v = .int .i64 T3.2.2 ∧ Fr w wr [(BT, T3.1, T3.2.1), (BC, T2.1, T2.2.1), (BB, yl, yh), (BA, xl, xh), (w.heap.size + 1 + 1, zl, zh), (w.heap.size + 1, yl, yh), (w.heap.size, xl, xh)])
        case first =>
          clear HSM HTM
          by_cases h : T2.2.2 = 0
          · have k : (T2.2.2 == 0) = true := by simpa using h
            have ET := hid (HT3.out.trans (Um.stp_yes h))
            obtain ⟨c1, c2⟩ := HG.out.2.1 h
            obtain ⟨m1, m2, -⟩ := chk_may c1
            obtain ⟨m3, m4, -⟩ := chk_may c2
            have HC := fun w => hid (rLess_any T2.1 T2.2.1 yl yh w m1 m2 m3 m4)
            rw [← ET.out] at HC
            clear h ET HE0 HG HD HT1 HT2 HT3 HT4 HT5 HT6 HG2 HD2 HU1 HU2 HV1 HV2
            have x1l := (hF.at 1 rfl).lo
            have x1h := (hF.at 1 rfl).hi
            have x2l := (hF.at 2 rfl).lo
            have x2h := (hF.at 2 rfl).hi
            go_wp2_with (go_at_call 10; refine (HC _).out.mono ?_; rintro e wn ⟨rfl, hb⟩; replace hF := hF.step hb; clear hb; clear x1l x1h x2l x2h; have y1 := (hF.at 0 rfl).fl; have y2 := (hF.at 0 rfl).fh; have y3 := (hF.at 0 rfl).lo; have y4 := (hF.at 0 rfl).hi)
            go_meet
            case rel => exact ⟨rfl, hF.put 0 rfl _ _ rfl⟩
          · have k : (T2.2.2 == 0) = false := by simpa using h
            have ET := hid (HT3.out.trans (Um.stp_not h))
            clear h HE0 HG HD HT1 HT2 HT3 HT4 HT5 HT6 HG2 HD2 HU1 HU2 HV1 HV2
            go_wp2
            go_meet
            case rel => rw [ET.out]; exact ⟨rfl, hF⟩
        case rest =>
          clear hF
          obtain ⟨rfl, hF⟩ := hcut
          go_upto_if 56 with fail
          go_cut [7] from 55 to 62 (fun v wr => v = .int .i64 T4.2.2 ∧ Fr w wr [(BT, T3.1, T3.2.1), (BC, T2.1, T2.2.1), (BB, yl, yh), (BA, T4.1, T4.2.1), (w.heap.size + 1 + 1, zl, zh), (w.heap.size + 1, yl, yh), (w.heap.size, xl, xh)])
          case first =>
            clear HSM HTM
            by_cases h : T3.2.2 = 0
            · have k : (T3.2.2 == 0) = true := by simpa using h
              have ET := hid (HT4.out.trans (Um.stp_yes h))
              skip
              have HC := fun w => hid (rMeet_any xl xh T3.1 T3.2.1 w)
              rw [← ET.out] at HC
              clear h ET HE0 HG HD HT1 HT2 HT3 HT4 HT5 HT6 HG2 HD2 HU1 HU2 HV1 HV2
              have x0l := (hF.at 0 rfl).lo
              have x0h := (hF.at 0 rfl).hi
              have x3l := (hF.at 3 rfl).lo
              have x3h := (hF.at 3 rfl).hi
              go_wp2_with (go_at_call 9; refine (HC _).out.mono ?_; rintro e wn ⟨rfl, hb⟩; replace hF := hF.step hb; clear hb; clear x0l x0h x3l x3h; have y1 := (hF.at 3 rfl).fl; have y2 := (hF.at 3 rfl).fh; have y3 := (hF.at 3 rfl).lo; have y4 := (hF.at 3 rfl).hi)
              go_meet
              case rel => exact ⟨rfl, hF.put 3 rfl _ _ rfl⟩
            · have k : (T3.2.2 == 0) = false := by simpa using h
              have ET := hid (HT4.out.trans (Um.stp_not h))
              clear h HE0 HG HD HT1 HT2 HT3 HT4 HT5 HT6 HG2 HD2 HU1 HU2 HV1 HV2
              go_wp2
              go_meet
              case rel => rw [ET.out]; exact ⟨rfl, hF⟩
          case rest =>
            clear hF
            obtain ⟨rfl, hF⟩ := hcut
            go_upto_if 64 with fail
            go_cut [7] from 63 to 70 (fun v wr => v = .int .i64 T5.2.2 ∧ Fr w wr [(BT, T5.1, T5.2.1), (BC, T2.1, T2.2.1), (BB, yl, yh), (BA, T4.1, T4.2.1), (w.heap.size + 1 + 1, zl, zh), (w.heap.size + 1, yl, yh), (w.heap.size, xl, xh)])
            case first =>
              clear HSM HTM
              by_cases h : T4.2.2 = 0
              · have k : (T4.2.2 == 0) = true := by simpa using h
                have ET := hid (HT5.out.trans (Um.stp_yes h))
                obtain ⟨c1, c2⟩ := HG.out.2.2.1 h
                obtain ⟨m1, m2, -⟩ := chk_may c1
                obtain ⟨m3, m4, -⟩ := chk_may c2
                have HC := fun w => hid (rLess_any T2.1 T2.2.1 T4.1 T4.2.1 w m1 m2 m3 m4)
                rw [← ET.out] at HC
                clear h ET HE0 HG HD HT1 HT2 HT3 HT4 HT5 HT6 HG2 HD2 HU1 HU2 HV1 HV2
                have x1l := (hF.at 1 rfl).lo
                have x1h := (hF.at 1 rfl).hi
                have x3l := (hF.at 3 rfl).lo
                have x3h := (hF.at 3 rfl).hi
                go_wp2_with (go_at_call 10; refine (HC _).out.mono ?_; rintro e wn ⟨rfl, hb⟩; replace hF := hF.step hb; clear hb; clear x1l x1h x3l x3h; have y1 := (hF.at 0 rfl).fl; have y2 := (hF.at 0 rfl).fh; have y3 := (hF.at 0 rfl).lo; have y4 := (hF.at 0 rfl).hi)
                go_meet
                case rel => exact ⟨rfl, hF.put 0 rfl _ _ rfl⟩
              · have k : (T4.2.2 == 0) = false := by simpa using h
                have ET := hid (HT5.out.trans (Um.stp_not h))
                clear h HE0 HG HD HT1 HT2 HT3 HT4 HT5 HT6 HG2 HD2 HU1 HU2 HV1 HV2
                go_wp2
                go_meet
                case rel => rw [ET.out]; exact ⟨rfl, hF⟩
            case rest =>
              clear hF
              obtain ⟨rfl, hF⟩ := hcut
              go_upto_if 72 with fail
              go_cut [7] from 71 to 78 (fun v wr => v = .int .i64 T6.2.2 ∧ Fr w wr [(BT, T5.1, T5.2.1), (BC, T2.1, T2.2.1), (BB, T6.1, T6.2.1), (BA, T4.1, T4.2.1), (w.heap.size + 1 + 1, zl, zh), (w.heap.size + 1, yl, yh), (w.heap.size, xl, xh)])
              case first =>
                clear HSM HTM
                by_cases h : T5.2.2 = 0
                · have k : (T5.2.2 == 0) = true := by simpa using h
                  have ET := hid (HT6.out.trans (Um.stp_yes h))
                  skip
                  have HC := fun w => hid (rMeet_any yl yh T5.1 T5.2.1 w)
                  rw [← ET.out] at HC
                  clear h ET HE0 HG HD HT1 HT2 HT3 HT4 HT5 HT6 HG2 HD2 HU1 HU2 HV1 HV2
                  have x0l := (hF.at 0 rfl).lo
                  have x0h := (hF.at 0 rfl).hi
                  have x2l := (hF.at 2 rfl).lo
                  have x2h := (hF.at 2 rfl).hi
                  go_wp2_with (go_at_call 9; refine (HC _).out.mono ?_; rintro e wn ⟨rfl, hb⟩; replace hF := hF.step hb; clear hb; clear x0l x0h x2l x2h; have y1 := (hF.at 2 rfl).fl; have y2 := (hF.at 2 rfl).fh; have y3 := (hF.at 2 rfl).lo; have y4 := (hF.at 2 rfl).hi)
                  go_meet
                  case rel => exact ⟨rfl, hF.put 2 rfl _ _ rfl⟩
                · have k : (T5.2.2 == 0) = false := by simpa using h
                  have ET := hid (HT6.out.trans (Um.stp_not h))
                  clear h HE0 HG HD HT1 HT2 HT3 HT4 HT5 HT6 HG2 HD2 HU1 HU2 HV1 HV2
                  go_wp2
                  go_meet
                  case rel => rw [ET.out]; exact ⟨rfl, hF⟩
              case rest =>
                clear hF
                obtain ⟨rfl, hF⟩ := hcut
                go_upto_if 80 with fail
                go_cut [] from 79 to 83 (fun wr => Fr w wr [(BT, T5.1, T5.2.1), (BC, D.2.2.1.1, D.2.2.1.2), (BB, D.2.1.1, D.2.1.2), (BA, D.1.1, D.1.2), (w.heap.size + 1 + 1, zl, zh), (w.heap.size + 1, yl, yh), (w.heap.size, xl, xh)])
                case first =>
                  clear HSM HTM
                  by_cases h : T6.2.2 = 0
                  · have k : (T6.2.2 != 0) = false := by simpa using h
                    have ET := hid (HD.out.trans (fin_yes h))
                    clear h HE0 HG HD HT1 HT2 HT3 HT4 HT5 HT6 HG2 HD2 HU1 HU2 HV1 HV2
                    go_wp2
                    go_meet
                    case rel => rw [ET.out]; exact hF
                  · have k : (T6.2.2 != 0) = true := by simpa using h
                    have ET := hid (HD.out.trans (fin_not h))
                    clear h HE0 HG HD HT1 HT2 HT3 HT4 HT5 HT6 HG2 HD2 HU1 HU2 HV1 HV2
                    have y1 := (hF.at 3 rfl).fl
                    have y2 := (hF.at 3 rfl).fh
                    have y3 := (hF.at 3 rfl).lo
                    have y4 := (hF.at 3 rfl).hi
                    have hF1 := hF.put 3 rfl 0 0 rfl
                    have x1l := (hF1.at 3 rfl).lo
                    have x1h := (hF1.at 3 rfl).hi
                    have y5 := (hF1.at 2 rfl).fl
                    have y6 := (hF1.at 2 rfl).fh
                    have y7 := (hF1.at 2 rfl).lo
                    have y8 := (hF1.at 2 rfl).hi
                    have hF2 := hF1.put 2 rfl 0 0 rfl
                    have x2l := (hF2.at 3 rfl).lo
                    have x2h := (hF2.at 3 rfl).hi
                    have y9 := (hF2.at 1 rfl).fl
                    have y10 := (hF2.at 1 rfl).fh
                    have y11 := (hF2.at 1 rfl).lo
                    have y12 := (hF2.at 1 rfl).hi
                    have hF3 := hF2.put 1 rfl 0 0 rfl
                    go_wp2
                    go_meet
                    case rel => rw [ET.out]; exact hF3
                case rest =>
                  clear hF
                  have hF := hcut
                  clear hcut
                  have kE : (D.2.2.2 == T6.2.2) = true := by rw [HD.out, fin_fault]; simp
                  clear HD HT1 HT2 HT3 HT4 HT5 HT6 HG
                  have x4l := (hF.at 4 rfl).lo
                  have x4h := (hF.at 4 rfl).hi
                  have x5l := (hF.at 5 rfl).lo
                  have x5h := (hF.at 5 rfl).hi
                  have x6l := (hF.at 6 rfl).lo
                  have x6h := (hF.at 6 rfl).hi
                  go_upto_region 26 with (go_at_call 11; refine (HSM _).out.mono ?_; rintro e wn ⟨rfl, hb⟩; replace hF := hF.step hb; clear hb; clear x4l x4h x5l x5h x6l x6h; clear HSM; replace hF := ((hF.push (b := wn.heap.size) D.1.1 D.1.2 rfl).push (b := wn.heap.size + 1) D.2.1.1 D.2.1.2 (by simp)).push (b := wn.heap.size + 1 + 1) D.2.2.1.1 D.2.2.1.2 (by simp))
                  generalize ((wn.alloc (.cells #[.int .i64 D.1.1, .int .i64 D.1.2] 23)).alloc (.cells #[.int .i64 D.2.1.1, .int .i64 D.2.1.2] 23)).alloc (.cells #[.int .i64 D.2.2.1.1, .int .i64 D.2.2.1.2] 23) = W1 at *
                  generalize wn.heap.size = BP at *
                  generalize BP + 1 + 1 = BR at *
                  generalize BP + 1 = BQ at *
                  go_upto_region 27 with (go_at_call 12; refine (hid (same_any _ _ _ (hg.below (B := w.heap.size) hF.below hg.size))).out.mono ?_; rintro e wn ⟨rfl, hb⟩; replace hF := hF.step hb; clear hb; have x0l := (hF.at 0 rfl).lo; have x0h := (hF.at 0 rfl).hi; have x1l := (hF.at 1 rfl).lo; have x1h := (hF.at 1 rfl).hi; have x2l := (hF.at 2 rfl).lo; have x2h := (hF.at 2 rfl).hi; have x4l := (hF.at 4 rfl).lo; have x4h := (hF.at 4 rfl).hi; have x5l := (hF.at 5 rfl).lo; have x5h := (hF.at 5 rfl).hi; have x6l := (hF.at 6 rfl).lo; have x6h := (hF.at 6 rfl).hi)
                  clear x0l x0h x1l x1h x2l x2h x4l x4h x5l x5h x6l x6h
                  clear kE
                  have x0l := (hF.at 9 rfl).lo
                  have x0h := (hF.at 9 rfl).hi
                  have y0 := (hF.at 6 rfl).fl
                  have y1 := (hF.at 6 rfl).fh
                  have y2 := (hF.at 6 rfl).lo
                  have y3 := (hF.at 6 rfl).hi
                  have hF0 := hF.put 6 rfl xl xh rfl
                  have x1l := (hF0.at 8 rfl).lo
                  have x1h := (hF0.at 8 rfl).hi
                  have y4 := (hF0.at 5 rfl).fl
                  have y5 := (hF0.at 5 rfl).fh
                  have y6 := (hF0.at 5 rfl).lo
                  have y7 := (hF0.at 5 rfl).hi
                  have hF1 := hF0.put 5 rfl yl yh rfl
                  have x2l := (hF1.at 7 rfl).lo
                  have x2h := (hF1.at 7 rfl).hi
                  have y8 := (hF1.at 4 rfl).fl
                  have y9 := (hF1.at 4 rfl).fh
                  have y10 := (hF1.at 4 rfl).lo
                  have y11 := (hF1.at 4 rfl).hi
                  have hFz := hF1.put 4 rfl zl zh rfl
                  go_upto_region 30 with fail
                  clear hF hF0 hF1 x0l x0h x1l x1h x2l x2h y0 y1 y2 y3 y4 y5 y6 y7 y8 y9 y10 y11
                  have hF := hFz
                  clear hFz
                  generalize (((((wn.setCell ⟨BA, 0, none⟩ (.int .i64 xl)).setCell ⟨BA, 1, none⟩ (.int .i64 xh)).setCell ⟨BB, 0, none⟩ (.int .i64 yl)).setCell ⟨BB, 1, none⟩ (.int .i64 yh)).setCell ⟨BC, 0, none⟩ (.int .i64 zl)).setCell ⟨BC, 1, none⟩ (.int .i64 zh) = W2 at *
                  go_upto_if 115 with fail
                  go_cut [8] from 111 to 121 (fun v wr => v = .int .i64 U1.2.2 ∧ Fr w wr [(BR, D.2.2.1.1, D.2.2.1.2), (BQ, D.2.1.1, D.2.1.2), (BP, D.1.1, D.1.2), (BT, U1.1, U1.2.1), (BC, zl, zh), (BB, yl, yh), (BA, xl, xh), (w.heap.size + 1 + 1, zl, zh), (w.heap.size + 1, yl, yh), (w.heap.size, xl, xh)])
                  case first =>
                    clear HTM
                    by_cases h : E0 = 0
                    · have k : (E0 == 0) = true := by simpa using h
                      have ET := hid (HU1.out.trans (Um.stp_yes h))
                      obtain ⟨c1, c2⟩ := HG2.out.1 h
                      obtain ⟨m1, m2, -⟩ := chk_may c1
                      obtain ⟨m3, m4, -⟩ := chk_may c2
                      have HC := fun w => hid (rTimes_um xl xh yl yh w m1 m2 m3 m4)
                      rw [← ET.out] at HC
                      clear h ET HE0 HG2 HD2 HU1 HU2 HV1 HV2
                      have x2l := (hF.at 5 rfl).lo
                      have x2h := (hF.at 5 rfl).hi
                      have x3l := (hF.at 6 rfl).lo
                      have x3h := (hF.at 6 rfl).hi
                      go_wp2_with (go_at_call 13; refine (HC _).out.mono ?_; rintro e wn ⟨rfl, hb⟩; replace hF := hF.step hb; clear hb; clear x2l x2h x3l x3h; have y1 := (hF.at 3 rfl).fl; have y2 := (hF.at 3 rfl).fh; have y3 := (hF.at 3 rfl).lo; have y4 := (hF.at 3 rfl).hi)
                      go_meet
                      case rel => exact ⟨rfl, hF.put 3 rfl _ _ rfl⟩
                    · have k : (E0 == 0) = false := by simpa using h
                      have ET := hid (HU1.out.trans (Um.stp_not h))
                      clear h HE0 HG2 HD2 HU1 HU2 HV1 HV2
                      go_wp2
                      go_meet
                      case rel => rw [ET.out]; exact ⟨rfl, hF⟩
                  case rest =>
                    clear hF
                    obtain ⟨rfl, hF⟩ := hcut
                    go_upto_if 123 with fail
                    go_cut [8] from 122 to 129 (fun v wr => v = .int .i64 U2.2.2 ∧ Fr w wr [(BR, D.2.2.1.1, D.2.2.1.2), (BQ, D.2.1.1, D.2.1.2), (BP, D.1.1, D.1.2), (BT, U1.1, U1.2.1), (BC, U2.1, U2.2.1), (BB, yl, yh), (BA, xl, xh), (w.heap.size + 1 + 1, zl, zh), (w.heap.size + 1, yl, yh), (w.heap.size, xl, xh)])
                    case first =>
                      clear HTM
                      by_cases h : U1.2.2 = 0
                      · have k : (U1.2.2 == 0) = true := by simpa using h
                        have ET := hid (HU2.out.trans (Um.stp_yes h))
                        skip
                        have HC := fun w => hid (rMeet_any zl zh U1.1 U1.2.1 w)
                        rw [← ET.out] at HC
                        clear h ET HE0 HG2 HD2 HU1 HU2 HV1 HV2
                        have x0l := (hF.at 3 rfl).lo
                        have x0h := (hF.at 3 rfl).hi
                        have x1l := (hF.at 4 rfl).lo
                        have x1h := (hF.at 4 rfl).hi
                        go_wp2_with (go_at_call 9; refine (HC _).out.mono ?_; rintro e wn ⟨rfl, hb⟩; replace hF := hF.step hb; clear hb; clear x0l x0h x1l x1h; have y1 := (hF.at 4 rfl).fl; have y2 := (hF.at 4 rfl).fh; have y3 := (hF.at 4 rfl).lo; have y4 := (hF.at 4 rfl).hi)
                        go_meet
                        case rel => exact ⟨rfl, hF.put 4 rfl _ _ rfl⟩
                      · have k : (U1.2.2 == 0) = false := by simpa using h
                        have ET := hid (HU2.out.trans (Um.stp_not h))
                        clear h HE0 HG2 HD2 HU1 HU2 HV1 HV2
                        go_wp2
                        go_meet
                        case rel => rw [ET.out]; exact ⟨rfl, hF⟩
                    case rest =>
                      clear hF
                      obtain ⟨rfl, hF⟩ := hcut
                      have HZ := fun w => hid (rZero_any yl yh w)
                      obtain ⟨ZB, hZB⟩ : ∃ Q : Bool, Q = (decide (yl ≤ 0) && decide (0 ≤ yh)) := ⟨_, rfl⟩
                      rw [← hZB] at HZ
                      have HZB := hid hZB
                      clear hZB
                      have x2l := (hF.at 5 rfl).lo
                      have x2h := (hF.at 5 rfl).hi
                      go_upto_region 35 with (go_at_call 14; refine (HZ _).out.mono ?_; rintro e wn ⟨rfl, rfl⟩; replace hF := hF.alloc (.cells #[.int .i64 yl, .int .i64 yh] 23); clear x2l x2h)
                      clear HZ
                      obtain ⟨QB, hQB⟩ : ∃ Q : Bool, Q = ((U2.2.2 == 0) && !ZB) := ⟨_, rfl⟩
                      have HQB := hid hQB
                      clear hQB
                      go_cut [137] from 130 to 137 (fun v wr => v = .bool QB ∧ Fr w wr [(BR, D.2.2.1.1, D.2.2.1.2), (BQ, D.2.1.1, D.2.1.2), (BP, D.1.1, D.1.2), (BT, U1.1, U1.2.1), (BC, U2.1, U2.2.1), (BB, yl, yh), (BA, xl, xh), (w.heap.size + 1 + 1, zl, zh), (w.heap.size + 1, yl, yh), (w.heap.size, xl, xh)])
                      case first =>
                        clear HTM HE0 HG2 HD2 HU1 HU2 HV1 HV2 HZB
                        by_cases h : U2.2.2 = 0
                        · have k : (U2.2.2 == 0) = true := by simpa using h
                          have e : QB = !ZB := by rw [HQB.out, k]; rfl
                          clear h HQB
                          subst e
                          cases ZB
                          · go_wp2
                            go_meet
                            case rel => exact ⟨rfl, hF⟩
                          · go_wp2
                            go_meet
                            case rel => exact ⟨rfl, hF⟩
                        · have k : (U2.2.2 == 0) = false := by simpa using h
                          have e : QB = false := by rw [HQB.out, k]; rfl
                          clear h HQB
                          subst e
                          go_wp2
                          go_meet
                          case rel => exact ⟨rfl, hF⟩
                      case rest =>
                       clear hF
                       obtain ⟨rfl, hF⟩ := hcut
                       have HQ : Hid (QB = true ↔ U2.2.2 = 0 ∧ ¬ (yl ≤ 0 ∧ 0 ≤ yh)) := hid (by
                         rw [HQB.out, HZB.out]
                         by_cases h : U2.2.2 = 0
                         · by_cases g1 : yl ≤ 0
                           · by_cases g2 : 0 ≤ yh
                             · simp [h, g1, g2]
                             · simp [h, g1, g2]
                           · simp [h, g1]
                         · simp [h])
                       clear HQB HZB
                       go_upto_if 137 with fail
                       go_cut [8] from 130 to 151 (fun v wr => v = .int .i64 V1.2.2 ∧ ∃ tl th, Fr w wr [(BR, D.2.2.1.1, D.2.2.1.2), (BQ, D.2.1.1, D.2.1.2), (BP, D.1.1, D.1.2), (BT, tl, th), (BC, U2.1, U2.2.1), (BB, yl, yh), (BA, V1.1, V1.2.1), (w.heap.size + 1 + 1, zl, zh), (w.heap.size + 1, yl, yh), (w.heap.size, xl, xh)])
                       case first =>
                        clear HTM
                        cases QB
                        · have q : ¬ (U2.2.2 = 0 ∧ ¬ (yl ≤ 0 ∧ 0 ≤ yh)) := fun g => by cases (HQ.out.2 g)
                          have ET := hid (HV1.out.trans (Um.bk_not q))
                          clear q HQ HE0 HG2 HD2 HU1 HU2 HV1 HV2
                          go_wp2
                          go_meet
                          case rel => rw [ET.out]; exact ⟨rfl, _, _, hF⟩
                        · have q := HQ.out.1 rfl
                          have h := q.1
                          obtain ⟨c1, c2⟩ := HG2.out.2.1 h
                          obtain ⟨m1, m2, -⟩ := chk_may c1
                          obtain ⟨m3, -, m5⟩ := chk_may c2
                          have HC := fun w => hid (rBy_um U2.1 U2.2.1 yl yh w m1 m2 m3 m5)
                          have x1l := (hF.at 4 rfl).lo
                          have x1h := (hF.at 4 rfl).hi
                          have x2l := (hF.at 5 rfl).lo
                          have x2h := (hF.at 5 rfl).hi
                          by_cases f : (Um.sbyR U2.1 U2.2.1 yl yh).2.2 = 0
                          · have ET := hid (HV1.out.trans (Um.bk_yes q f))
                            have kf : ((Um.sbyR U2.1 U2.2.1 yl yh).2.2 == 0) = true := by simpa using f
                            have HM := fun w => hid (rMeet_any xl xh (Um.sbyR U2.1 U2.2.1 yl yh).1 (Um.sbyR U2.1 U2.2.1 yl yh).2.1 w)
                            rw [← ET.out] at HM
                            clear h q f HQ ET c1 c2 m1 m2 m3 m5 HE0 HG2 HD2 HU1 HU2 HV1 HV2
                            generalize Um.sbyR U2.1 U2.2.1 yl yh = M at *
                            go_wp2_with (first | (go_at_call 15; refine (HC _).out.mono ?_; rintro e wn ⟨rfl, hb⟩; replace hF := hF.step hb; clear hb; clear x1l x1h x2l x2h; have y1 := (hF.at 3 rfl).fl; have y2 := (hF.at 3 rfl).fh; have y3 := (hF.at 3 rfl).lo; have y4 := (hF.at 3 rfl).hi; replace hF := hF.put 3 rfl M.1 M.2.1 rfl; have x0l := (hF.at 3 rfl).lo; have x0h := (hF.at 3 rfl).hi; have x3l := (hF.at 6 rfl).lo; have x3h := (hF.at 6 rfl).hi) | (go_at_call 9; refine (HM _).out.mono ?_; rintro e wn ⟨rfl, hb⟩; replace hF := hF.step hb; clear hb; clear x0l x0h x3l x3h; clear y1 y2 y3 y4; have y1 := (hF.at 6 rfl).fl; have y2 := (hF.at 6 rfl).fh; have y3 := (hF.at 6 rfl).lo; have y4 := (hF.at 6 rfl).hi))
                            go_meet
                            case rel => exact ⟨rfl, _, _, hF.put 6 rfl _ _ rfl⟩
                          · have ET := hid (HV1.out.trans (Um.bk_bad q f))
                            have kf : ((Um.sbyR U2.1 U2.2.1 yl yh).2.2 == 0) = false := by simpa using f
                            clear h q f HQ c1 c2 m1 m2 m3 m5 HE0 HG2 HD2 HU1 HU2 HV1 HV2
                            generalize Um.sbyR U2.1 U2.2.1 yl yh = M at *
                            go_wp2_with (go_at_call 15; refine (HC _).out.mono ?_; rintro e wn ⟨rfl, hb⟩; replace hF := hF.step hb; clear hb; clear x1l x1h x2l x2h; have y1 := (hF.at 3 rfl).fl; have y2 := (hF.at 3 rfl).fh; have y3 := (hF.at 3 rfl).lo; have y4 := (hF.at 3 rfl).hi)
                            go_meet
                            case rel => rw [ET.out]; exact ⟨rfl, _, _, hF.put 3 rfl _ _ rfl⟩
                       case rest =>
                        clear hF HQ
                        obtain ⟨rfl, ta, tb, hF⟩ := hcut
                        have HZ := fun w => hid (rZero_any V1.1 V1.2.1 w)
                        obtain ⟨ZB, hZB⟩ : ∃ Q : Bool, Q = (decide (V1.1 ≤ 0) && decide (0 ≤ V1.2.1)) := ⟨_, rfl⟩
                        rw [← hZB] at HZ
                        have HZB := hid hZB
                        clear hZB
                        have x3l := (hF.at 6 rfl).lo
                        have x3h := (hF.at 6 rfl).hi
                        go_upto_region 40 with (go_at_call 14; refine (HZ _).out.mono ?_; rintro e wn ⟨rfl, rfl⟩; replace hF := hF.alloc (.cells #[.int .i64 V1.1, .int .i64 V1.2.1] 23); clear x3l x3h)
                        clear HZ
                        obtain ⟨QB, hQB⟩ : ∃ Q : Bool, Q = ((V1.2.2 == 0) && !ZB) := ⟨_, rfl⟩
                        have HQB := hid hQB
                        clear hQB
                        go_cut [159] from 152 to 159 (fun v wr => v = .bool QB ∧ Fr w wr [(BR, D.2.2.1.1, D.2.2.1.2), (BQ, D.2.1.1, D.2.1.2), (BP, D.1.1, D.1.2), (BT, ta, tb), (BC, U2.1, U2.2.1), (BB, yl, yh), (BA, V1.1, V1.2.1), (w.heap.size + 1 + 1, zl, zh), (w.heap.size + 1, yl, yh), (w.heap.size, xl, xh)])
                        case first =>
                          clear HTM HE0 HG2 HD2 HU1 HU2 HV1 HV2 HZB
                          by_cases h : V1.2.2 = 0
                          · have k : (V1.2.2 == 0) = true := by simpa using h
                            have e : QB = !ZB := by rw [HQB.out, k]; rfl
                            clear h HQB
                            subst e
                            cases ZB
                            · go_wp2
                              go_meet
                              case rel => exact ⟨rfl, hF⟩
                            · go_wp2
                              go_meet
                              case rel => exact ⟨rfl, hF⟩
                          · have k : (V1.2.2 == 0) = false := by simpa using h
                            have e : QB = false := by rw [HQB.out, k]; rfl
                            clear h HQB
                            subst e
                            go_wp2
                            go_meet
                            case rel => exact ⟨rfl, hF⟩
                        case rest =>
                         clear hF
                         obtain ⟨rfl, hF⟩ := hcut
                         have HQ : Hid (QB = true ↔ V1.2.2 = 0 ∧ ¬ (V1.1 ≤ 0 ∧ 0 ≤ V1.2.1)) := hid (by
                           rw [HQB.out, HZB.out]
                           by_cases h : V1.2.2 = 0
                           · by_cases g1 : V1.1 ≤ 0
                             · by_cases g2 : 0 ≤ V1.2.1
                               · simp [h, g1, g2]
                               · simp [h, g1, g2]
                             · simp [h, g1]
                           · simp [h])
                         clear HQB HZB
                         go_upto_if 159 with fail
                         go_cut [8] from 152 to 173 (fun v wr => v = .int .i64 V2.2.2 ∧ ∃ tl th, Fr w wr [(BR, D.2.2.1.1, D.2.2.1.2), (BQ, D.2.1.1, D.2.1.2), (BP, D.1.1, D.1.2), (BT, tl, th), (BC, U2.1, U2.2.1), (BB, V2.1, V2.2.1), (BA, V1.1, V1.2.1), (w.heap.size + 1 + 1, zl, zh), (w.heap.size + 1, yl, yh), (w.heap.size, xl, xh)])
                         case first =>
                          clear HTM
                          cases QB
                          · have q : ¬ (V1.2.2 = 0 ∧ ¬ (V1.1 ≤ 0 ∧ 0 ≤ V1.2.1)) := fun g => by cases (HQ.out.2 g)
                            have ET := hid (HV2.out.trans (Um.bk_not q))
                            clear q HQ HE0 HG2 HD2 HU1 HU2 HV1 HV2
                            go_wp2
                            go_meet
                            case rel => rw [ET.out]; exact ⟨rfl, _, _, hF⟩
                          · have q := HQ.out.1 rfl
                            have h := q.1
                            obtain ⟨c1, c2⟩ := HG2.out.2.2.1 h
                            obtain ⟨m1, m2, -⟩ := chk_may c1
                            obtain ⟨m3, -, m5⟩ := chk_may c2
                            have HC := fun w => hid (rBy_um U2.1 U2.2.1 V1.1 V1.2.1 w m1 m2 m3 m5)
                            have x1l := (hF.at 4 rfl).lo
                            have x1h := (hF.at 4 rfl).hi
                            have x3l := (hF.at 6 rfl).lo
                            have x3h := (hF.at 6 rfl).hi
                            by_cases f : (Um.sbyR U2.1 U2.2.1 V1.1 V1.2.1).2.2 = 0
                            · have ET := hid (HV2.out.trans (Um.bk_yes q f))
                              have kf : ((Um.sbyR U2.1 U2.2.1 V1.1 V1.2.1).2.2 == 0) = true := by simpa using f
                              have HM := fun w => hid (rMeet_any yl yh (Um.sbyR U2.1 U2.2.1 V1.1 V1.2.1).1 (Um.sbyR U2.1 U2.2.1 V1.1 V1.2.1).2.1 w)
                              rw [← ET.out] at HM
                              clear h q f HQ ET c1 c2 m1 m2 m3 m5 HE0 HG2 HD2 HU1 HU2 HV1 HV2
                              generalize Um.sbyR U2.1 U2.2.1 V1.1 V1.2.1 = M at *
                              go_wp2_with (first | (go_at_call 15; refine (HC _).out.mono ?_; rintro e wn ⟨rfl, hb⟩; replace hF := hF.step hb; clear hb; clear x1l x1h x3l x3h; have y1 := (hF.at 3 rfl).fl; have y2 := (hF.at 3 rfl).fh; have y3 := (hF.at 3 rfl).lo; have y4 := (hF.at 3 rfl).hi; replace hF := hF.put 3 rfl M.1 M.2.1 rfl; have x0l := (hF.at 3 rfl).lo; have x0h := (hF.at 3 rfl).hi; have x2l := (hF.at 5 rfl).lo; have x2h := (hF.at 5 rfl).hi) | (go_at_call 9; refine (HM _).out.mono ?_; rintro e wn ⟨rfl, hb⟩; replace hF := hF.step hb; clear hb; clear x0l x0h x2l x2h; clear y1 y2 y3 y4; have y1 := (hF.at 5 rfl).fl; have y2 := (hF.at 5 rfl).fh; have y3 := (hF.at 5 rfl).lo; have y4 := (hF.at 5 rfl).hi))
                              go_meet
                              case rel => exact ⟨rfl, _, _, hF.put 5 rfl _ _ rfl⟩
                            · have ET := hid (HV2.out.trans (Um.bk_bad q f))
                              have kf : ((Um.sbyR U2.1 U2.2.1 V1.1 V1.2.1).2.2 == 0) = false := by simpa using f
                              clear h q f HQ c1 c2 m1 m2 m3 m5 HE0 HG2 HD2 HU1 HU2 HV1 HV2
                              generalize Um.sbyR U2.1 U2.2.1 V1.1 V1.2.1 = M at *
                              go_wp2_with (go_at_call 15; refine (HC _).out.mono ?_; rintro e wn ⟨rfl, hb⟩; replace hF := hF.step hb; clear hb; clear x1l x1h x3l x3h; have y1 := (hF.at 3 rfl).fl; have y2 := (hF.at 3 rfl).fh; have y3 := (hF.at 3 rfl).lo; have y4 := (hF.at 3 rfl).hi)
                              go_meet
                              case rel => rw [ET.out]; exact ⟨rfl, _, _, hF.put 3 rfl _ _ rfl⟩
                         case rest =>
                          clear hF HQ
                          obtain ⟨rfl, tc, td, hF⟩ := hcut
                          go_upto_if 175 with fail
                          go_cut [] from 174 to 178 (fun wr => Fr w wr [(BR, D.2.2.1.1, D.2.2.1.2), (BQ, D.2.1.1, D.2.1.2), (BP, D.1.1, D.1.2), (BT, tc, td), (BC, D2.2.2.1.1, D2.2.2.1.2), (BB, D2.2.1.1, D2.2.1.2), (BA, D2.1.1, D2.1.2), (w.heap.size + 1 + 1, zl, zh), (w.heap.size + 1, yl, yh), (w.heap.size, xl, xh)])
                          case first =>
                            clear HTM
                            by_cases h : V2.2.2 = 0
                            · have k : (V2.2.2 != 0) = false := by simpa using h
                              have ET := hid (HD2.out.trans (fin_yes h))
                              clear h HE0 HG2 HD2 HU1 HU2 HV1 HV2
                              go_wp2
                              go_meet
                              case rel => rw [ET.out]; exact hF
                            · have k : (V2.2.2 != 0) = true := by simpa using h
                              have ET := hid (HD2.out.trans (fin_not h))
                              clear h HE0 HG2 HD2 HU1 HU2 HV1 HV2
                              have y1 := (hF.at 6 rfl).fl
                              have y2 := (hF.at 6 rfl).fh
                              have y3 := (hF.at 6 rfl).lo
                              have y4 := (hF.at 6 rfl).hi
                              have hF1 := hF.put 6 rfl 0 0 rfl
                              have x1l := (hF1.at 6 rfl).lo
                              have x1h := (hF1.at 6 rfl).hi
                              have y5 := (hF1.at 5 rfl).fl
                              have y6 := (hF1.at 5 rfl).fh
                              have y7 := (hF1.at 5 rfl).lo
                              have y8 := (hF1.at 5 rfl).hi
                              have hF2 := hF1.put 5 rfl 0 0 rfl
                              have x2l := (hF2.at 6 rfl).lo
                              have x2h := (hF2.at 6 rfl).hi
                              have y9 := (hF2.at 4 rfl).fl
                              have y10 := (hF2.at 4 rfl).fh
                              have y11 := (hF2.at 4 rfl).lo
                              have y12 := (hF2.at 4 rfl).hi
                              have hF3 := hF2.put 4 rfl 0 0 rfl
                              go_wp2
                              go_meet
                              case rel => rw [ET.out]; exact hF3
                          case rest =>
                            clear hF
                            have hF := hcut
                            clear hcut
                            have kE : (D2.2.2.2 == V2.2.2) = true := by rw [HD2.out, fin_fault]; simp
                            clear HD2 HU1 HU2 HV1 HV2 HG2 HE0
                            have x4l := (hF.at 7 rfl).lo
                            have x4h := (hF.at 7 rfl).hi
                            have x5l := (hF.at 8 rfl).lo
                            have x5h := (hF.at 8 rfl).hi
                            have x6l := (hF.at 9 rfl).lo
                            have x6h := (hF.at 9 rfl).hi
                            go_upto_region 49 with (go_at_call 16; refine (HTM _).out.mono ?_; rintro e wn ⟨rfl, hb⟩; replace hF := hF.step hb; clear hb; clear x4l x4h x5l x5h x6l x6h; clear HTM; have y0 := (hF.at 2 rfl).fl; have y1 := (hF.at 2 rfl).fh; have y2 := (hF.at 2 rfl).lo; have y3 := (hF.at 2 rfl).hi; have hF0 := hF.put 2 rfl D2.1.1 D2.1.2 rfl; have y4 := (hF0.at 1 rfl).fl; have y5 := (hF0.at 1 rfl).fh; have y6 := (hF0.at 1 rfl).lo; have y7 := (hF0.at 1 rfl).hi; have hF1 := hF0.put 1 rfl D2.2.1.1 D2.2.1.2 rfl; have y8 := (hF1.at 0 rfl).fl; have y9 := (hF1.at 0 rfl).fh; have y10 := (hF1.at 0 rfl).lo; have y11 := (hF1.at 0 rfl).hi; have hFz := hF1.put 0 rfl D2.2.2.1.1 D2.2.2.1.2 rfl; clear hF; have hF := hFz; clear hFz hF0 hF1)
                            clear y0 y1 y2 y3 y4 y5 y6 y7 y8 y9 y10 y11
                            generalize (((((wn.setCell ⟨BP, 0, none⟩ (.int .i64 D2.1.1)).setCell ⟨BP, 1, none⟩ (.int .i64 D2.1.2)).setCell ⟨BQ, 0, none⟩ (.int .i64 D2.2.1.1)).setCell ⟨BQ, 1, none⟩ (.int .i64 D2.2.1.2)).setCell ⟨BR, 0, none⟩ (.int .i64 D2.2.2.1.1)).setCell ⟨BR, 1, none⟩ (.int .i64 D2.2.2.1.2) = W4 at *
                            go_wp2_with (go_at_call 12; refine (hid (same_any _ _ _ (hg.below (B := w.heap.size) hF.below hg.size))).out.mono ?_; rintro e wn ⟨rfl, hb⟩; replace hF := hF.step hb; clear hb; have x0l := (hF.at 0 rfl).lo; have x0h := (hF.at 0 rfl).hi; have x1l := (hF.at 1 rfl).lo; have x1h := (hF.at 1 rfl).hi; have x2l := (hF.at 2 rfl).lo; have x2h := (hF.at 2 rfl).hi; have x4l := (hF.at 4 rfl).lo; have x4h := (hF.at 4 rfl).hi; have x5l := (hF.at 5 rfl).lo; have x5h := (hF.at 5 rfl).hi; have x6l := (hF.at 6 rfl).lo; have x6h := (hF.at 6 rfl).hi)
                            go_returns
                            exact ⟨rfl, hF.below⟩
end Go.Proofs.YtomkekapgcpihaaDoor.NwTells
