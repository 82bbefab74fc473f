/-
  The walk over 'spanlaw2.CoverTells': for all s, b, depth it returns true.
-/
import Derived.Test.YtkeoafbkbblnaaaDoorCover
import Derived.Test.YtkeoafbkbblnaaaDoorRefParts
import Derived.Test.YtkeoafbkbblnaaaDoorRefBox
import Derived.Test.YtkeoafbkbblnaaaDoorRefNext
import Derived.Test.YtkeoafbkbblnaaaDoorBSame
import Derived.Test.YtkeoafbkbblnaaaDoorMems2
import Derived.Test.YtkeoafbkbblnaaaDoorSame
import Derived.LoopTactic
import Derived.Deep.CutRange
namespace Go.Proofs.YtkeoafbkbblnaaaDoor.CvTells
set_option linter.unusedSimpArgs false
open Go.RowKit

theorem step_is {s : List (List Um.Tm)} {p b : List (Int × Int)} {n : Int} {Z : List (Int × Int) × Int} (e : Um.covAll s p b n = Z) (v0 v1 v : Value) (w : World) (hf : Lf w.heap.size w v0 s) (hp : Ls w.heap.size w v1 p) (hs : Ls w.heap.size w v b) :
    Calls Tryd.prog 15 #[.agg #[v0, v1], v, .int .i64 n] w fun e w' => ∃ r, e = .returned (.tuple #[r, errV Z.2]) ∧ Ls w'.heap.size w' r Z.1 ∧ Below w.heap.size w w' := by
  subst e
  exact cvStep_any s v0 p v1 b v n w hf hp hs

set_option maxRecDepth 100000 in
set_option maxHeartbeats 16000000 in
theorem walk (s : List (List Um.Tm)) (v0 : Value) (p : List (Int × Int)) (v1 : Value) (b : List (Int × Int)) (v : Value) (n : Int) (w : World) (hg : HasErr w) (hf : Lf w.heap.size w v0 s) (hp : Ls w.heap.size w v1 p) (hs : Ls w.heap.size w v b) :
    Calls Tryd.prog 3 #[.agg #[v0, v1], v, .int .i64 n] w fun e w' => e = .returned (.bool true) ∧ Below w.heap.size w w' := by
  have v0 := errV_none
  have q1 := errG
  have q2 := errGn
  have q3 := errE
  have q4 := errN
  have hmx : Tryd.prog.follows .mixedOrders = true := by kernel_rfl
  obtain ⟨a0, cap0, rfl, -⟩ := (id hf)
  obtain ⟨a1, cap1, rfl, -⟩ := (id hp)
  obtain ⟨a2, cap2, rfl, -⟩ := (id hs)
  have h1 : w.heap.size < (w.alloc (.cells #[.slice a0 s.length cap0, .slice a1 p.length cap1] 25)).heap.size := by simp
  have hBW : Below w.heap.size w (w.alloc (.cells #[.slice a0 s.length cap0, .slice a1 p.length cap1] 25)) := by go_grown
  obtain ⟨c0, c1⟩ := sys_cells w (.slice a0 s.length cap0) (.slice a1 p.length cap1) 25
  have hF := Fr.start (w.alloc (.cells #[.slice a0 s.length cap0, .slice a1 p.length cap1] 25))
  have hf2 := hf.step hBW
  have hp2 := hp.step hBW
  have hb2 := hs.step hBW
  have HBX := fun w h1 => hid (rBox_any b (.slice a2 b.length cap2) w h1)
  have HPT0 := fun m hb h5 w h1 => hid (rParts_any b (.slice a2 b.length cap2) m w h1 hb h5)
  have HCP := fun w h1 => hid (cvPieces_any b (.slice a2 b.length cap2) n w h1)
  have HSY := fun w h1 h2 => hid (rSystem_any s (.slice a0 s.length cap0) p (.slice a1 p.length cap1) w h1 h2)
  have HO := Um.piecesAll_most b n
  have HO1 := hid (show (Um.piecesAll b n).1.length ≤ 1000 by omega)
  have HO2 := hid (fun j hj => (show ((Um.piecesAll b n).1[j]?.getD []).length ≤ 1000 by have := (HO.2 j hj).2.1; omega))
  obtain ⟨PF, hPF⟩ : ∃ PF, PF = Um.piecesF b n := ⟨_, rfl⟩
  obtain ⟨BF, hBF⟩ : ∃ BF, BF = Um.boxF b := ⟨_, rfl⟩
  obtain ⟨G, hG⟩ : ∃ G, G = Um.sysF s p := ⟨_, rfl⟩
  obtain ⟨F1, hF1⟩ : ∃ F1, F1 = if G = 0 then PF else G := ⟨_, rfl⟩
  obtain ⟨F2, hF2⟩ : ∃ F2, F2 = Um.covF s p b n := ⟨_, rfl⟩
  obtain ⟨ZA, hZA⟩ : ∃ ZA, ZA = decide (BF = 0 ∧ ¬ (0 ≤ n ∧ n ≤ 5)) := ⟨_, rfl⟩
  obtain ⟨ZD, hZD⟩ : ∃ ZD, ZD = decide (F1 = 0 ∧ ¬ b.length = s.length) := ⟨_, rfl⟩
  have E1 : Hid (ZA = true → PF = 1) := fun h => by
    rw [hZA] at h
    obtain ⟨h1, h2⟩ := of_decide_eq_true h
    rw [hPF]; unfold Um.piecesF
    rw [if_pos (hBF.symm.trans h1), if_neg h2]
  have E2 : Hid (ZA = false → PF = BF) := fun h => by
    rw [hZA] at h
    have h1 := of_decide_eq_false h
    rw [hPF]; unfold Um.piecesF
    by_cases c : BF = 0
    · rw [if_pos (hBF.symm.trans c), if_pos (Decidable.not_not.1 fun d => h1 ⟨c, d⟩), c]
    · rw [if_neg (fun d => c (hBF.trans d)), hBF]
  have E3 : Hid (ZD = true → F2 = 3) := fun h => by
    rw [hZD] at h
    obtain ⟨h1, h2⟩ := of_decide_eq_true h
    rw [hF2]; unfold Um.covF
    rw [hF1] at h1
    by_cases c : G = 0
    · rw [if_pos c] at h1
      rw [if_pos (hG.symm.trans c), if_pos (hPF.symm.trans h1), if_neg h2]
    · rw [if_neg c] at h1; exact absurd h1 c
  have E4 : Hid (ZD = false → F2 = F1) := fun h => by
    rw [hZD] at h
    have h1 := of_decide_eq_false h
    rw [hF2]; unfold Um.covF
    rw [hF1] at h1 ⊢
    by_cases c : G = 0
    · rw [if_pos c] at h1 ⊢
      rw [if_pos (hG.symm.trans c)]
      by_cases d : PF = 0
      · rw [if_pos (hPF.symm.trans d)]
        by_cases g : b.length = s.length
        · rw [if_pos g, d]
        · exact absurd ⟨d, g⟩ h1
      · rw [if_neg (fun g => d (hPF.trans g)), hPF]
    · rw [if_neg c, if_neg (fun g => c (hG.trans g)), hG]
  have HZA := hid hZA
  have HZD := hid hZD
  have HPF := hid hPF
  have HF1 := hid hF1
  have HF2 := hid hF2
  have EP : Hid ((Um.piecesAll b n).2 = PF) := by rw [hPF]; exact hid (Um.piecesAll_fault b n)
  have EQ : Hid (¬ PF = 0 → (Um.piecesAll b n).1 = []) := hid fun h => by rw [Um.piecesAll_none (fun c => h (hPF.trans c))]
  have ER : Hid (PF = 0 → ∃ m : Nat, n = m ∧ m ≤ 5 ∧ Um.boxF b = 0 ∧ (Um.piecesAll b n).1 = Um.piecesN b m) := hid fun h => by
    have g := hPF.symm.trans h
    obtain ⟨g1, g2, g3⟩ := Um.piecesF_ok.1 g
    refine ⟨n.toNat, by omega, by omega, g1, ?_⟩
    unfold Um.piecesAll
    rw [if_pos g]
  rw [← hBF] at HBX
  rw [← hG] at HSY
  clear HO hf hp hs hPF hBF hG hF1 hF2 hZA hZD
  obtain ⟨PA, hPA⟩ : ∃ PA, PA = Um.piecesAll b n := ⟨_, rfl⟩
  rw [← hPA] at HCP HO1 HO2 EP EQ ER
  clear hPA
  rw [EP.out] at HCP
  have y0 := c0
  have y1 := c1
  go_enter Tryd.func3, Tryd.ntmps3
  go_upto_region 2 with (go_at_call 7; refine (HBX _ (hF.ls hb2)).out.mono ?_; rintro e wn ⟨rfl, hb⟩; replace hF := hF.step hb; clear hb; clear y0 y1; have y0 := (hF.below.cell (p := ⟨w.heap.size, 0, none⟩) h1).trans c0; have y1 := (hF.below.cell (p := ⟨w.heap.size, 1, none⟩) h1).trans c1; clear HBX)
  go_cut [30] from 19 to 29 (fun v w1 => v = .bool ZA ∧ Fr (w.alloc (.cells #[.slice a0 s.length cap0, .slice a1 p.length cap1] 25)) w1 [])
  case first =>
    clear HPT0 HCP HSY HO1 HO2 E1 E2 E3 E4 HZD HPF HF1 HF2 EP EQ ER
    by_cases h : BF = 0
    · have k1 : (BF == 0) = true := by simpa using h
      by_cases h2 : n < 0
      · have k2 : decide (n < 0) = true := decide_eq_true h2
        have e1 : ZA = true := by rw [HZA.out]; exact decide_eq_true ⟨h, by omega⟩
        clear HZA h h2
        subst e1
        go_wp2
        go_meet
        case rel => exact ⟨rfl, hF⟩
      · have k2 : decide (n < 0) = false := decide_eq_false h2
        by_cases h3 : 5 < n
        · have k3 : decide (5 < n) = true := decide_eq_true h3
          have e1 : ZA = true := by rw [HZA.out]; exact decide_eq_true ⟨h, by omega⟩
          clear HZA h h2 h3
          subst e1
          go_wp2
          go_meet
          case rel => exact ⟨rfl, hF⟩
        · have k3 : decide (5 < n) = false := decide_eq_false h3
          have e1 : ZA = false := by rw [HZA.out]; exact decide_eq_false (by omega)
          clear HZA h h2 h3
          subst e1
          go_wp2
          go_meet
          case rel => exact ⟨rfl, hF⟩
    · have k1 : (BF == 0) = false := by simpa using h
      have e1 : ZA = false := by rw [HZA.out]; exact decide_eq_false fun c => h c.1
      clear HZA h
      subst e1
      go_wp2
      go_meet
      case rel => exact ⟨rfl, hF⟩
  case rest =>
   clear hF y0 y1
   obtain ⟨rfl, hF⟩ := hcut
   have y0 := (hF.below.cell (p := ⟨w.heap.size, 0, none⟩) h1).trans c0
   have y1 := (hF.below.cell (p := ⟨w.heap.size, 1, none⟩) h1).trans c1
   go_upto_if 30 with fail
   go_cut [7] from 19 to 30 (fun e w1 => e = .int .i64 PF ∧ Fr (w.alloc (.cells #[.slice a0 s.length cap0, .slice a1 p.length cap1] 25)) w1 [])
   case first =>
    clear HPT0 HCP HSY HO1 HO2 E3 E4 HZD HPF HF1 HF2 EP EQ ER HZA
    cases ZA
    · have e1 := E2.out rfl
      clear E1 E2
      subst e1
      go_wp2
      go_meet
      case rel => exact ⟨rfl, hF⟩
    · have e1 := E1.out rfl
      clear E1 E2
      subst e1
      go_wp2
      go_meet
      case rel => exact ⟨rfl, hF⟩
   case rest =>
    clear hF y0 y1 E1 E2 HZA
    obtain ⟨rfl, hF⟩ := hcut
    have y0 := (hF.below.cell (p := ⟨w.heap.size, 0, none⟩) h1).trans c0
    have y1 := (hF.below.cell (p := ⟨w.heap.size, 1, none⟩) h1).trans c1
    go_upto_if 32 with fail
    go_cut [8] from 19 to 35 (fun r w1 => Fr (w.alloc (.cells #[.slice a0 s.length cap0, .slice a1 p.length cap1] 25)) w1 [] ∧ ∃ a6 cap6, r = .slice a6 PA.1.length cap6 ∧ Lb w1.heap.size w1 (.slice a6 PA.1.length cap6) PA.1)
    case first =>
      clear HCP HSY HO1 HO2 E3 E4 HZD HPF HF1 HF2 EP
      by_cases h : PF = 0
      · have k1 : (PF == 0) = true := by simpa using h
        obtain ⟨m, rfl, h5, hbx, e1⟩ := ER.out h
        have HPT := fun w h1 => HPT0 m hbx h5 w h1
        rw [← e1] at HPT
        clear EQ ER HPT0 h hbx e1
        go_wp2_with (go_at_call 8; refine (HPT _ (hF.ls hb2)).out.mono ?_; rintro e wn ⟨r1, rfl, hw, hb⟩; replace hF := hF.step hb; clear hb; clear y0 y1; have y0 := (hF.below.cell (p := ⟨w.heap.size, 0, none⟩) h1).trans c0; have y1 := (hF.below.cell (p := ⟨w.heap.size, 1, none⟩) h1).trans c1; obtain ⟨s1, d1, rfl, -⟩ := (id hw); clear HPT)
        go_meet
        case rel => exact ⟨hF, _, _, rfl, hw⟩
      · have k1 : (PF == 0) = false := by simpa using h
        have e1 := EQ.out h
        clear EQ ER HPT0 h
        go_wp2
        go_meet
        case rel => exact ⟨hF, none, 0, by rw [e1]; rfl, by rw [e1]; exact Lb.nil _ _⟩
    case rest =>
     clear hF y0 y1 HPT0 EQ
     obtain ⟨hF, a6, cap6, rfl, hw⟩ := hcut
     have y0 := (hF.below.cell (p := ⟨w.heap.size, 0, none⟩) h1).trans c0
     have y1 := (hF.below.cell (p := ⟨w.heap.size, 1, none⟩) h1).trans c1
     go_upto_region 8 with (go_at_call 9; refine (HCP _ (hF.ls hb2)).out.mono ?_; rintro e wn ⟨r2, rfl, hh, hb⟩; replace hw := hw.step hb; replace hF := hF.step hb; clear hb; clear y0 y1; have y0 := (hF.below.cell (p := ⟨w.heap.size, 0, none⟩) h1).trans c0; have y1 := (hF.below.cell (p := ⟨w.heap.size, 1, none⟩) h1).trans c1; obtain ⟨s2, d2, rfl, -⟩ := (id hh); clear HCP)
     go_upto_region 9 with (first | (go_at_call 10; refine (hid (same_any _ _ _ (hg.below (B := w.heap.size) (hBW.trans (hF.below.mono hBW.size)) hg.size))).out.mono ?_; rintro e wn ⟨rfl, hb⟩; replace hw := hw.step hb; replace hh := hh.step hb; replace hF := hF.step hb; clear hb; clear y0 y1; have y0 := (hF.below.cell (p := ⟨w.heap.size, 0, none⟩) h1).trans c0; have y1 := (hF.below.cell (p := ⟨w.heap.size, 1, none⟩) h1).trans c1) | (go_at_call 11; refine (hid (boxes_same PA.1 _ _ _ hh hw HO1.out HO2.out)).out.mono ?_; rintro e wn ⟨rfl, hb⟩; replace hw := hw.step hb; replace hF := hF.step hb; clear hb; clear y0 y1; have y0 := (hF.below.cell (p := ⟨w.heap.size, 0, none⟩) h1).trans c0; have y1 := (hF.below.cell (p := ⟨w.heap.size, 1, none⟩) h1).trans c1; clear hh))
     go_upto_if 53 with (go_at_call 12; refine (HSY _ (hF.lf hf2) (hF.ls hp2)).out.mono ?_; rintro e wn ⟨rfl, hb⟩; replace hw := hw.step hb; replace hF := hF.step hb; clear hb; clear y0 y1; have y0 := (hF.below.cell (p := ⟨w.heap.size, 0, none⟩) h1).trans c0; have y1 := (hF.below.cell (p := ⟨w.heap.size, 1, none⟩) h1).trans c1; clear HSY)
     go_cut [12] from 36 to 54 (fun e w1 => e = .int .i64 F1 ∧ Fr (w.alloc (.cells #[.slice a0 s.length cap0, .slice a1 p.length cap1] 25)) w1 [] ∧ Lb w1.heap.size w1 (.slice a6 PA.1.length cap6) PA.1)
     case first =>
      clear E3 E4 HZD HPF HF2 EP ER HO1 HO2
      by_cases h : G = 0
      · have k1 : (G == 0) = true := by simpa using h
        have e1 : F1 = PF := by rw [HF1.out, if_pos h]
        clear HF1 h
        subst e1
        go_wp2
        go_meet
        case rel => exact ⟨rfl, hF, hw⟩
      · have k1 : (G == 0) = false := by simpa using h
        have e1 : F1 = G := by rw [HF1.out, if_neg h]
        clear HF1 h
        subst e1
        go_wp2
        go_meet
        case rel => exact ⟨rfl, hF, hw⟩
     case rest =>
      clear hF hw y0 y1 HF1
      obtain ⟨rfl, hF, hw⟩ := hcut
      have y0 := (hF.below.cell (p := ⟨w.heap.size, 0, none⟩) h1).trans c0
      have y1 := (hF.below.cell (p := ⟨w.heap.size, 1, none⟩) h1).trans c1
      go_upto_region 12 with fail
      go_cut [64] from 36 to 63 (fun v w1 => v = .bool ZD ∧ Fr (w.alloc (.cells #[.slice a0 s.length cap0, .slice a1 p.length cap1] 25)) w1 [] ∧ Lb w1.heap.size w1 (.slice a6 PA.1.length cap6) PA.1)
      case first =>
        clear E3 E4 HPF HF2 EP ER HO1 HO2
        by_cases h : F1 = 0
        · have k1 : (F1 == 0) = true := by simpa using h
          by_cases h2 : b.length = s.length
          · have k2 : ((b.length : Int) != (s.length : Int)) = false := by simp [h2]
            have e1 : ZD = false := by rw [HZD.out]; exact decide_eq_false fun c => c.2 h2
            clear HZD h h2
            subst e1
            go_wp2
            go_meet
            case rel => exact ⟨rfl, hF, hw⟩
          · have k2 : ((b.length : Int) != (s.length : Int)) = true := by simp; omega
            have e1 : ZD = true := by rw [HZD.out]; exact decide_eq_true ⟨h, h2⟩
            clear HZD h h2
            subst e1
            go_wp2
            go_meet
            case rel => exact ⟨rfl, hF, hw⟩
        · have k1 : (F1 == 0) = false := by simpa using h
          have e1 : ZD = false := by rw [HZD.out]; exact decide_eq_false fun c => h c.1
          clear HZD h
          subst e1
          go_wp2
          go_meet
          case rel => exact ⟨rfl, hF, hw⟩
      case rest =>
       clear hF hw y0 y1 HZD
       obtain ⟨rfl, hF, hw⟩ := hcut
       have y0 := (hF.below.cell (p := ⟨w.heap.size, 0, none⟩) h1).trans c0
       have y1 := (hF.below.cell (p := ⟨w.heap.size, 1, none⟩) h1).trans c1
       go_upto_if 64 with fail
       go_cut [12] from 36 to 64 (fun e w1 => e = .int .i64 F2 ∧ Fr (w.alloc (.cells #[.slice a0 s.length cap0, .slice a1 p.length cap1] 25)) w1 [] ∧ Lb w1.heap.size w1 (.slice a6 PA.1.length cap6) PA.1)
       case first =>
        clear HPF HF2 EP ER HO1 HO2
        cases ZD
        · have e1 := E4.out rfl
          clear E3 E4
          subst e1
          go_wp2
          go_meet
          case rel => exact ⟨rfl, hF, hw⟩
        · have e1 := E3.out rfl
          clear E3 E4
          subst e1
          go_wp2
          go_meet
          case rel => exact ⟨rfl, hF, hw⟩
       case rest =>
        clear hF hw y0 y1 E3 E4 EP HO1 HO2
        obtain ⟨rfl, hF, hw⟩ := hcut
        by_cases hz2 : F2 = 0
        · have hcf : Um.covF s p b n = 0 := HF2.out.symm.trans hz2
          obtain ⟨hr, n0, n5⟩ := Um.covF_ok.1 hcf
          have hpf : PF = 0 := by rw [HPF.out]; exact Um.piecesF_ok.2 ⟨(Um.ready_ok.1 hr).2.1, n0, n5⟩
          obtain ⟨m, hnm, h5, hbx, e1⟩ := ER.out hpf
          subst hnm
          have HCI : Hid (Um.covAll s p b m = Um.covN s p PA.1 PA.1.length) := by rw [e1]; exact hid (Um.covAll_is hcf)
          have HRD : Hid (∀ i, i < PA.1.length → Um.readyF s p (PA.1[i]?.getD []) = 0) := by rw [e1]; exact hid fun i hi => Um.piece_ready hr m hi
          have h32 : PA.1.length ≤ 32 := by rw [e1]; exact Um.pieces_len32 h5
          have HAM := hid (Um.covAll_most s p b m)
          subst hz2
          clear hcf hr n0 n5 hpf hbx e1 ER HPF HF2
          go_wp2
          go_loopw [12, 13, 14] (fun f va i wq => ∃ k : Nat, k ≤ PA.1.length ∧ i = .int .i64 k ∧ f = .int .i64 (Um.covN s p PA.1 k).2 ∧ Ls wq.heap.size wq va (Um.covN s p PA.1 k).1 ∧ Lb wq.heap.size wq (.slice a6 PA.1.length cap6) PA.1 ∧ Fr (w.alloc (.cells #[.slice a0 s.length cap0, .slice a1 p.length cap1] 25)) wq []) (fun _ _ i _ => PA.1.length - (intOf i).toNat)
          case atStart => exact ⟨0, Nat.zero_le _, rfl, rfl, Ls.nil _ _, hw, hF⟩
          case round =>
            clear hF hw
            obtain ⟨k, hk, rfl, rfl, hv, hw, hF⟩ := hrel
            have y0 := (hF.below.cell (p := ⟨w.heap.size, 0, none⟩) h1).trans c0
            have y1 := (hF.below.cell (p := ⟨w.heap.size, 1, none⟩) h1).trans c1
            obtain ⟨a9, c9, rfl, -⟩ := (id hv)
            by_cases hkz : k < PA.1.length ∧ (Um.covN s p PA.1 k).2 = 0
            · obtain ⟨hkl, hz⟩ := hkz
              have hkk : decide ((k : Int) < (PA.1.length : Int)) = true := decide_eq_true (by omega)
              have hku : (k : Int) < (PA.1.length : Int) := by omega
              have kz : ((Um.covN s p PA.1 k).2 == 0) = true := by simpa using hz
              obtain ⟨b6, o6, c6, e6', -, m6, n6⟩ := hw.open (by intro e; rw [e] at hkl; simp at hkl)
              cases e6'
              obtain ⟨x6, y6, e6⟩ := n6 k hkl
              have hk6 := m6
              have hXl : w.heap.size < wr.heap.size := Nat.lt_of_lt_of_le h1 hF.size
              have hLF := hF.lf hf2
              have hLP := hF.ls hp2
              have hrd := HRD.out k hkl
              have HNX := fun w h1 h2 h3 => hid (rNext_any s (.slice a0 s.length cap0) p (.slice a1 p.length cap1) (PA.1[k]?.getD []) x6 w h1 h2 h3 hrd)
              have HNB := fun h => hid (Um.next_box hrd h)
              have HCB : Hid (¬ k = 0 → Um.boxF (Um.covN s p PA.1 k).1 = 0 ∧ (Um.covN s p PA.1 k).1.length = s.length) := hid fun h0 => by
                have := Um.cov_box (fun i hi => HRD.out i hi) (k - 1) (by omega) (by rw [show k - 1 + 1 = k by omega]; exact hz)
                rwa [show k - 1 + 1 = k by omega] at this
              have HTS := hid (Um.cov_succ s p PA.1 k)
              rw [if_pos hz] at HTS
              have HFT := hid (Um.nextN_fault s p (PA.1[k]?.getD []) s.length)
              have HPC : Hid (Um.pc PA.1 k = PA.1[k]?.getD []) := hid rfl
              rw [HPC.out] at HTS
              have HE4 : Hid (¬ (Um.behR s p (PA.1[k]?.getD [])).2 = 0 → (Um.behR s p (PA.1[k]?.getD [])).2 = 4) := hid fun h => by
                have := HFT.out.resolve_left h
                unfold Um.behR
                rw [this]
              have HZ0 := hid hz
              clear n6 m6 HRD HCI HAM HFT HPC hz hrd
              generalize Um.behR s p (PA.1[k]?.getD []) = Z at *
              by_cases hc : Z.2 = 0
              · have kc : (Z.2 != 0) = false := by simpa using hc
                rw [if_pos hc] at HTS
                have hnb := (HNB hc).out
                by_cases hk0 : k = 0
                · have HT : Hid (Um.covN s p PA.1 (k + 1) = (Z.1, (Um.covN s p PA.1 k).2)) := by rw [HTS.out, if_pos hk0, HZ0.out]; exact hid rfl
                  have ki : ((k : Int) == 0) = true := by rw [hk0]; rfl
                  clear HTS HCB HNB hc hnb HE4 HZ0 hk0
                  generalize Um.covN s p PA.1 k = Y at *
                  go_wp2
                  obtain ⟨Inv, hInv⟩ : ∃ Inv : Array Bool → Act → World → Prop, ∀ listed aq W', Inv listed aq W' ↔ (∃ rr v76 v77 v78 v79 v80 v81 v75 v82 v83 v15 v16 : Value, aq = { tmps := #[Value.agg #[Value.slice a0 s.length cap0, Value.slice a1 p.length cap1], Value.slice a2 b.length cap2, Value.int IntKind.i64 ↑m, Value.pointer (some { block := w.heap.size, off := 0 }), undef, undef, Value.bool false, Value.int IntKind.i64 PF, Value.slice (some { block := b6, off := o6 }) PA.fst.length cap6, Value.slice s2 PA.fst.length d2, errV PF, Value.bool true, Value.int IntKind.i64 Y.snd, Value.slice a9 Y.fst.length c9, Value.int IntKind.i64 ↑k, v15, v16, undef, undef, u19, u20, u21, u22, u23, u24, u25, u26, u27, u28, u29, u30, u31, u32, u33, u34, u35, u36, u37, u38, u39, u40, u41, u42, u43, u44, u45, u46, u47, u48, u49, u50, u51, u52, u53, u54, u55, u56, u57, u58, u59, u60, u61, u62, u63, u64, Value.int IntKind.i64 ↑k, Value.slice (some { block := b6, off := o6 }) PA.fst.length cap6, Value.int IntKind.i64 ↑PA.fst.length, Value.bool true, Value.bool true, Value.int IntKind.i64 Y.snd, Value.bool true, Value.bool true, u73, u74, v75, v76, v77, v78, v79, v80, v81, v82, v83, u84, u85, u86, u87, u88, u89, u90, u91, u92, undef, undef, undef, undef, undef, undef, undef, undef, undef, undef, undef, undef, undef, undef, undef, undef, undef, undef, undef], defers := [] } ∧ Below (wr).heap.size (wr) W' ∧ (listed.getD 0 false = true → v76 = (.agg #[.slice a0 s.length cap0, .slice a1 p.length cap1])) ∧ (listed.getD 1 false = true → v77 = Value.slice (some { block := b6, off := o6 }) PA.fst.length cap6) ∧ (listed.getD 2 false = true → v78 = Value.int IntKind.i64 ↑k) ∧ (listed.getD 3 false = true → v79 = .pointer (some ⟨b6, o6 + k, none⟩)) ∧ (listed.getD 4 false = true → v80 = x6) ∧ (listed.getD 5 false = true → v81 = (.tuple #[rr, .int .i64 Z.2])) ∧ (listed.getD 6 false = true → v75 = (.tuple #[rr, .int .i64 Z.2])) ∧ (listed.getD 7 false = true → v82 = rr) ∧ (listed.getD 8 false = true → v83 = .int .i64 Z.2) ∧ (listed.getD 9 false = true → v15 = rr) ∧ (listed.getD 10 false = true → v16 = .int .i64 Z.2) ∧ (listed.getD 5 false = true → Ls W'.heap.size W' rr Z.1) ∧ (listed.getD 6 false = true → listed.getD 5 false = true) ∧ (listed.getD 7 false = true → listed.getD 5 false = true) ∧ (listed.getD 8 false = true → listed.getD 5 false = true) ∧ (listed.getD 9 false = true → listed.getD 5 false = true) ∧ (listed.getD 10 false = true → listed.getD 5 false = true)) := ⟨_, fun _ _ _ => Iff.rfl⟩
                  have HI := hid hInv
                  clear hInv
                  refine Free.region hmx (by kernel_rfl) Inv ?s1 ?s2 ?s3
                  case s1 =>
                    exact (HI.out _ _ _).2 ⟨undef, u76, u77, u78, u79, u80, u81, u75, u82, u83, u15, u16, rfl, (Below.refl _ _).drew, Free.not_yet, Free.not_yet, Free.not_yet, Free.not_yet, Free.not_yet, Free.not_yet, Free.not_yet, Free.not_yet, Free.not_yet, Free.not_yet, Free.not_yet, Free.not_yet, Free.not_yet, Free.not_yet, Free.not_yet, Free.not_yet, Free.not_yet⟩
                  case s2 =>
                    intro i listed aq W1 hix hne hnl hsz hv
                    obtain ⟨rr, v76, v77, v78, v79, v80, v81, v75, v82, v83, v15, v16, rfl, hW, l0, l1, l2, l3, l4, l5, l6, l7, l8, l9, l10, lq, ld6, ld7, ld8, ld9, ld10⟩ := (HI.out _ _ _).1 hv
                    clear hv
                    replace hix : i < 11 := hix
                    replace hsz : listed.size = 11 := hsz
                    rcases (by omega : i = 0 ∨ i = 1 ∨ i = 2 ∨ i = 3 ∨ i = 4 ∨ i = 5 ∨ i = 6 ∨ i = 7 ∨ i = 8 ∨ i = 9 ∨ i = 10) with rfl | rfl | rfl | rfl | rfl | rfl | rfl | rfl | rfl | rfl | rfl
                    · have z0 := (hW.cell (p := ⟨w.heap.size, 0, none⟩) hXl).trans y0
                      have z1 := (hW.cell (p := ⟨w.heap.size, 1, none⟩) hXl).trans y1
                      refine Free.op rfl rfl (fun K hK => ?_)
                      go_simp
                      exact hK _ _ ((HI.out _ _ _).2 ⟨rr, _, v77, v78, v79, v80, v81, v75, v82, v83, v15, v16, rfl, hW, fun _ => rfl, Free.of_set (by decide) l1, Free.of_set (by decide) l2, Free.of_set (by decide) l3, Free.of_set (by decide) l4, Free.of_set (by decide) l5, Free.of_set (by decide) l6, Free.of_set (by decide) l7, Free.of_set (by decide) l8, Free.of_set (by decide) l9, Free.of_set (by decide) l10, Free.of_set (by decide) lq, fun e => Free.fore (by decide) (ld6 (Free.back (by decide) e)), fun e => Free.fore (by decide) (ld7 (Free.back (by decide) e)), fun e => Free.fore (by decide) (ld8 (Free.back (by decide) e)), fun e => Free.fore (by decide) (ld9 (Free.back (by decide) e)), fun e => Free.fore (by decide) (ld10 (Free.back (by decide) e))⟩)
                    · refine Free.op rfl rfl (fun K hK => ?_)
                      go_simp
                      exact hK _ _ ((HI.out _ _ _).2 ⟨rr, v76, _, v78, v79, v80, v81, v75, v82, v83, v15, v16, rfl, hW, Free.of_set (by decide) l0, fun _ => rfl, Free.of_set (by decide) l2, Free.of_set (by decide) l3, Free.of_set (by decide) l4, Free.of_set (by decide) l5, Free.of_set (by decide) l6, Free.of_set (by decide) l7, Free.of_set (by decide) l8, Free.of_set (by decide) l9, Free.of_set (by decide) l10, Free.of_set (by decide) lq, fun e => Free.fore (by decide) (ld6 (Free.back (by decide) e)), fun e => Free.fore (by decide) (ld7 (Free.back (by decide) e)), fun e => Free.fore (by decide) (ld8 (Free.back (by decide) e)), fun e => Free.fore (by decide) (ld9 (Free.back (by decide) e)), fun e => Free.fore (by decide) (ld10 (Free.back (by decide) e))⟩)
                    · refine Free.op rfl rfl (fun K hK => ?_)
                      go_simp
                      exact hK _ _ ((HI.out _ _ _).2 ⟨rr, v76, v77, _, v79, v80, v81, v75, v82, v83, v15, v16, rfl, hW, Free.of_set (by decide) l0, Free.of_set (by decide) l1, fun _ => rfl, Free.of_set (by decide) l3, Free.of_set (by decide) l4, Free.of_set (by decide) l5, Free.of_set (by decide) l6, Free.of_set (by decide) l7, Free.of_set (by decide) l8, Free.of_set (by decide) l9, Free.of_set (by decide) l10, Free.of_set (by decide) lq, fun e => Free.fore (by decide) (ld6 (Free.back (by decide) e)), fun e => Free.fore (by decide) (ld7 (Free.back (by decide) e)), fun e => Free.fore (by decide) (ld8 (Free.back (by decide) e)), fun e => Free.fore (by decide) (ld9 (Free.back (by decide) e)), fun e => Free.fore (by decide) (ld10 (Free.back (by decide) e))⟩)
                    · refine Free.op rfl rfl (fun K hK => ?_)
                      obtain rfl := l1 (hne 1 (by kernel_rfl))
                      obtain rfl := l2 (hne 2 (by kernel_rfl))
                      go_simp
                      exact hK _ _ ((HI.out _ _ _).2 ⟨rr, v76, _, _, _, v80, v81, v75, v82, v83, v15, v16, rfl, hW, Free.of_set (by decide) l0, fun _ => rfl, fun _ => rfl, fun _ => rfl, Free.of_set (by decide) l4, Free.of_set (by decide) l5, Free.of_set (by decide) l6, Free.of_set (by decide) l7, Free.of_set (by decide) l8, Free.of_set (by decide) l9, Free.of_set (by decide) l10, Free.of_set (by decide) lq, fun e => Free.fore (by decide) (ld6 (Free.back (by decide) e)), fun e => Free.fore (by decide) (ld7 (Free.back (by decide) e)), fun e => Free.fore (by decide) (ld8 (Free.back (by decide) e)), fun e => Free.fore (by decide) (ld9 (Free.back (by decide) e)), fun e => Free.fore (by decide) (ld10 (Free.back (by decide) e))⟩)
                    · have z := (hW.cell (p := ⟨b6, o6 + k, none⟩) hk6).trans y6
                      refine Free.op rfl rfl (fun K hK => ?_)
                      obtain rfl := l3 (hne 3 (by kernel_rfl))
                      go_simp
                      exact hK _ _ ((HI.out _ _ _).2 ⟨rr, v76, v77, v78, _, _, v81, v75, v82, v83, v15, v16, rfl, hW, Free.of_set (by decide) l0, Free.of_set (by decide) l1, Free.of_set (by decide) l2, fun _ => rfl, fun _ => rfl, Free.of_set (by decide) l5, Free.of_set (by decide) l6, Free.of_set (by decide) l7, Free.of_set (by decide) l8, Free.of_set (by decide) l9, Free.of_set (by decide) l10, Free.of_set (by decide) lq, fun e => Free.fore (by decide) (ld6 (Free.back (by decide) e)), fun e => Free.fore (by decide) (ld7 (Free.back (by decide) e)), fun e => Free.fore (by decide) (ld8 (Free.back (by decide) e)), fun e => Free.fore (by decide) (ld9 (Free.back (by decide) e)), fun e => Free.fore (by decide) (ld10 (Free.back (by decide) e))⟩)
                    · refine Free.op rfl rfl (fun K hK => ?_)
                      obtain rfl := l0 (hne 0 (by kernel_rfl))
                      obtain rfl := l4 (hne 4 (by kernel_rfl))
                      go_wp2_with (go_at_call 13; refine (HNX _ (hLF.step hW) (hLP.step hW) (e6.step hW)).out.mono ?_; rintro e W3 ⟨r, rfl, hq1, hb⟩)
                      exact (HI.out _ _ _).2 ⟨_, _, v77, v78, v79, _, _, v75, v82, v83, v15, v16, rfl, hW.trans (hb.mono hW.size), fun _ => rfl, Free.of_set (by decide) l1, Free.of_set (by decide) l2, Free.of_set (by decide) l3, fun _ => rfl, fun _ => rfl, Free.never ld6 hnl (by decide), Free.never ld7 hnl (by decide), Free.never ld8 hnl (by decide), Free.never ld9 hnl (by decide), Free.never ld10 hnl (by decide), fun _ => hq1, Free.never ld6 hnl (by decide), Free.never ld7 hnl (by decide), Free.never ld8 hnl (by decide), Free.never ld9 hnl (by decide), Free.never ld10 hnl (by decide)⟩
                    · refine Free.op rfl rfl (fun K hK => ?_)
                      obtain rfl := l5 (hne 5 (by kernel_rfl))
                      go_simp
                      exact hK _ _ ((HI.out _ _ _).2 ⟨rr, v76, v77, v78, v79, v80, _, _, v82, v83, v15, v16, rfl, hW, Free.of_set (by decide) l0, Free.of_set (by decide) l1, Free.of_set (by decide) l2, Free.of_set (by decide) l3, Free.of_set (by decide) l4, fun _ => rfl, fun _ => rfl, Free.of_set (by decide) l7, Free.of_set (by decide) l8, Free.of_set (by decide) l9, Free.of_set (by decide) l10, Free.of_set (by decide) lq, fun _ => Free.fore (by decide) (hne 5 (by kernel_rfl)), fun e => Free.fore (by decide) (ld7 (Free.back (by decide) e)), fun e => Free.fore (by decide) (ld8 (Free.back (by decide) e)), fun e => Free.fore (by decide) (ld9 (Free.back (by decide) e)), fun e => Free.fore (by decide) (ld10 (Free.back (by decide) e))⟩)
                    · refine Free.op rfl rfl (fun K hK => ?_)
                      obtain rfl := l6 (hne 6 (by kernel_rfl))
                      go_simp
                      exact hK _ _ ((HI.out _ _ _).2 ⟨rr, v76, v77, v78, v79, v80, v81, _, _, v83, v15, v16, rfl, hW, Free.of_set (by decide) l0, Free.of_set (by decide) l1, Free.of_set (by decide) l2, Free.of_set (by decide) l3, Free.of_set (by decide) l4, Free.of_set (by decide) l5, fun _ => rfl, fun _ => rfl, Free.of_set (by decide) l8, Free.of_set (by decide) l9, Free.of_set (by decide) l10, Free.of_set (by decide) lq, fun e => Free.fore (by decide) (ld6 (Free.back (by decide) e)), fun _ => Free.fore (by decide) (ld6 (hne 6 (by kernel_rfl))), fun e => Free.fore (by decide) (ld8 (Free.back (by decide) e)), fun e => Free.fore (by decide) (ld9 (Free.back (by decide) e)), fun e => Free.fore (by decide) (ld10 (Free.back (by decide) e))⟩)
                    · refine Free.op rfl rfl (fun K hK => ?_)
                      obtain rfl := l6 (hne 6 (by kernel_rfl))
                      go_simp
                      exact hK _ _ ((HI.out _ _ _).2 ⟨rr, v76, v77, v78, v79, v80, v81, _, v82, _, v15, v16, rfl, hW, Free.of_set (by decide) l0, Free.of_set (by decide) l1, Free.of_set (by decide) l2, Free.of_set (by decide) l3, Free.of_set (by decide) l4, Free.of_set (by decide) l5, fun _ => rfl, Free.of_set (by decide) l7, fun _ => rfl, Free.of_set (by decide) l9, Free.of_set (by decide) l10, Free.of_set (by decide) lq, fun e => Free.fore (by decide) (ld6 (Free.back (by decide) e)), fun e => Free.fore (by decide) (ld7 (Free.back (by decide) e)), fun _ => Free.fore (by decide) (ld6 (hne 6 (by kernel_rfl))), fun e => Free.fore (by decide) (ld9 (Free.back (by decide) e)), fun e => Free.fore (by decide) (ld10 (Free.back (by decide) e))⟩)
                    · refine Free.op rfl rfl (fun K hK => ?_)
                      obtain rfl := (l7 (hne 7 (by kernel_rfl))).symm
                      go_simp
                      exact hK _ _ ((HI.out _ _ _).2 ⟨rr, v76, v77, v78, v79, v80, v81, v75, _, v83, _, v16, rfl, hW, Free.of_set (by decide) l0, Free.of_set (by decide) l1, Free.of_set (by decide) l2, Free.of_set (by decide) l3, Free.of_set (by decide) l4, Free.of_set (by decide) l5, Free.of_set (by decide) l6, fun _ => rfl, Free.of_set (by decide) l8, fun _ => rfl, Free.of_set (by decide) l10, Free.of_set (by decide) lq, fun e => Free.fore (by decide) (ld6 (Free.back (by decide) e)), fun e => Free.fore (by decide) (ld7 (Free.back (by decide) e)), fun e => Free.fore (by decide) (ld8 (Free.back (by decide) e)), fun _ => Free.fore (by decide) (ld7 (hne 7 (by kernel_rfl))), fun e => Free.fore (by decide) (ld10 (Free.back (by decide) e))⟩)
                    · refine Free.op rfl rfl (fun K hK => ?_)
                      obtain rfl := l8 (hne 8 (by kernel_rfl))
                      go_simp
                      exact hK _ _ ((HI.out _ _ _).2 ⟨rr, v76, v77, v78, v79, v80, v81, v75, v82, _, v15, _, rfl, hW, Free.of_set (by decide) l0, Free.of_set (by decide) l1, Free.of_set (by decide) l2, Free.of_set (by decide) l3, Free.of_set (by decide) l4, Free.of_set (by decide) l5, Free.of_set (by decide) l6, Free.of_set (by decide) l7, fun _ => rfl, Free.of_set (by decide) l9, fun _ => rfl, Free.of_set (by decide) lq, fun e => Free.fore (by decide) (ld6 (Free.back (by decide) e)), fun e => Free.fore (by decide) (ld7 (Free.back (by decide) e)), fun e => Free.fore (by decide) (ld8 (Free.back (by decide) e)), fun e => Free.fore (by decide) (ld9 (Free.back (by decide) e)), fun _ => Free.fore (by decide) (ld8 (hne 8 (by kernel_rfl)))⟩)
                  case s3 =>
                    intro listed aq W1 hall hsz hv
                    obtain ⟨rr, v76, v77, v78, v79, v80, v81, v75, v82, v83, v15, v16, rfl, hW, l0, l1, l2, l3, l4, l5, l6, l7, l8, l9, l10, lq, ld6, ld7, ld8, ld9, ld10⟩ := (HI.out _ _ _).1 hv
                    clear hv HI
                    obtain rfl := l0 (Free.listed_of hall hsz 0 (by decide))
                    obtain rfl := l1 (Free.listed_of hall hsz 1 (by decide))
                    obtain rfl := l2 (Free.listed_of hall hsz 2 (by decide))
                    obtain rfl := l3 (Free.listed_of hall hsz 3 (by decide))
                    obtain rfl := l4 (Free.listed_of hall hsz 4 (by decide))
                    obtain rfl := l5 (Free.listed_of hall hsz 5 (by decide))
                    obtain rfl := l6 (Free.listed_of hall hsz 6 (by decide))
                    obtain rfl := (l7 (Free.listed_of hall hsz 7 (by decide))).symm
                    obtain rfl := l8 (Free.listed_of hall hsz 8 (by decide))
                    obtain rfl := (l9 (Free.listed_of hall hsz 9 (by decide))).symm
                    obtain rfl := l10 (Free.listed_of hall hsz 10 (by decide))
                    have hq := lq (Free.listed_of hall hsz 5 (by decide))
                    clear lq ld6 ld7 ld8 ld9 ld10
                    clear hall hsz
                    replace hF := hF.step hW
                    replace hv := hv.step hW
                    replace hw := hw.step hW
                    obtain ⟨a8, c8, rfl, -⟩ := (id hq)
                    clear hW y6 e6 HNX hLF hLP y0 y1
                    have y0 := (hF.below.cell (p := ⟨w.heap.size, 0, none⟩) h1).trans c0
                    have y1 := (hF.below.cell (p := ⟨w.heap.size, 1, none⟩) h1).trans c1
                    go_wp2
                    exact ⟨⟨k + 1, by omega, by simp, by rw [HT.out] <;> rfl, by rw [HT.out]; exact hq, hw, hF⟩, by simp [intOf]; omega⟩

                · have hbb : Um.boxesF (Um.covN s p PA.1 k).1 Z.1 = 0 := Um.boxes_ok.2 ⟨(HCB.out hk0).1, hnb.1, by rw [(HCB.out hk0).2, hnb.2]⟩
                  have HT : Hid (Um.covN s p PA.1 (k + 1) = (Um.hullN (Um.covN s p PA.1 k).1 Z.1 (Um.covN s p PA.1 k).1.length, (Um.covN s p PA.1 k).2)) := by rw [HTS.out, if_neg hk0, HZ0.out]; exact hid rfl
                  have ki : ((k : Int) == 0) = false := beq_false_of_ne (by omega)
                  have HHB := fun u w h1 h2 => hid (rHullBox_any (Um.covN s p PA.1 k).1 Z.1 (.slice a9 (Um.covN s p PA.1 k).1.length c9) u w h1 h2 hbb)
                  clear HTS HCB HNB hc hnb HE4 HZ0 hk0 hbb
                  generalize Um.covN s p PA.1 k = Y at *
                  go_wp2
                  obtain ⟨Inv, hInv⟩ : ∃ Inv : Array Bool → Act → World → Prop, ∀ listed aq W', Inv listed aq W' ↔ (∃ rr v76 v77 v78 v79 v80 v81 v75 v82 v83 v15 v16 : Value, aq = { tmps := #[Value.agg #[Value.slice a0 s.length cap0, Value.slice a1 p.length cap1], Value.slice a2 b.length cap2, Value.int IntKind.i64 ↑m, Value.pointer (some { block := w.heap.size, off := 0 }), undef, undef, Value.bool false, Value.int IntKind.i64 PF, Value.slice (some { block := b6, off := o6 }) PA.fst.length cap6, Value.slice s2 PA.fst.length d2, errV PF, Value.bool true, Value.int IntKind.i64 Y.snd, Value.slice a9 Y.fst.length c9, Value.int IntKind.i64 ↑k, v15, v16, undef, undef, u19, u20, u21, u22, u23, u24, u25, u26, u27, u28, u29, u30, u31, u32, u33, u34, u35, u36, u37, u38, u39, u40, u41, u42, u43, u44, u45, u46, u47, u48, u49, u50, u51, u52, u53, u54, u55, u56, u57, u58, u59, u60, u61, u62, u63, u64, Value.int IntKind.i64 ↑k, Value.slice (some { block := b6, off := o6 }) PA.fst.length cap6, Value.int IntKind.i64 ↑PA.fst.length, Value.bool true, Value.bool true, Value.int IntKind.i64 Y.snd, Value.bool true, Value.bool true, u73, u74, v75, v76, v77, v78, v79, v80, v81, v82, v83, u84, u85, u86, u87, u88, u89, u90, u91, u92, undef, undef, undef, undef, undef, undef, undef, undef, undef, undef, undef, undef, undef, undef, undef, undef, undef, undef, undef], defers := [] } ∧ Below (wr).heap.size (wr) W' ∧ (listed.getD 0 false = true → v76 = (.agg #[.slice a0 s.length cap0, .slice a1 p.length cap1])) ∧ (listed.getD 1 false = true → v77 = Value.slice (some { block := b6, off := o6 }) PA.fst.length cap6) ∧ (listed.getD 2 false = true → v78 = Value.int IntKind.i64 ↑k) ∧ (listed.getD 3 false = true → v79 = .pointer (some ⟨b6, o6 + k, none⟩)) ∧ (listed.getD 4 false = true → v80 = x6) ∧ (listed.getD 5 false = true → v81 = (.tuple #[rr, .int .i64 Z.2])) ∧ (listed.getD 6 false = true → v75 = (.tuple #[rr, .int .i64 Z.2])) ∧ (listed.getD 7 false = true → v82 = rr) ∧ (listed.getD 8 false = true → v83 = .int .i64 Z.2) ∧ (listed.getD 9 false = true → v15 = rr) ∧ (listed.getD 10 false = true → v16 = .int .i64 Z.2) ∧ (listed.getD 5 false = true → Ls W'.heap.size W' rr Z.1) ∧ (listed.getD 6 false = true → listed.getD 5 false = true) ∧ (listed.getD 7 false = true → listed.getD 5 false = true) ∧ (listed.getD 8 false = true → listed.getD 5 false = true) ∧ (listed.getD 9 false = true → listed.getD 5 false = true) ∧ (listed.getD 10 false = true → listed.getD 5 false = true)) := ⟨_, fun _ _ _ => Iff.rfl⟩
                  have HI := hid hInv
                  clear hInv
                  refine Free.region hmx (by kernel_rfl) Inv ?s1 ?s2 ?s3
                  case s1 =>
                    exact (HI.out _ _ _).2 ⟨undef, u76, u77, u78, u79, u80, u81, u75, u82, u83, u15, u16, rfl, (Below.refl _ _).drew, Free.not_yet, Free.not_yet, Free.not_yet, Free.not_yet, Free.not_yet, Free.not_yet, Free.not_yet, Free.not_yet, Free.not_yet, Free.not_yet, Free.not_yet, Free.not_yet, Free.not_yet, Free.not_yet, Free.not_yet, Free.not_yet, Free.not_yet⟩
                  case s2 =>
                    intro i listed aq W1 hix hne hnl hsz hv
                    obtain ⟨rr, v76, v77, v78, v79, v80, v81, v75, v82, v83, v15, v16, rfl, hW, l0, l1, l2, l3, l4, l5, l6, l7, l8, l9, l10, lq, ld6, ld7, ld8, ld9, ld10⟩ := (HI.out _ _ _).1 hv
                    clear hv
                    replace hix : i < 11 := hix
                    replace hsz : listed.size = 11 := hsz
                    rcases (by omega : i = 0 ∨ i = 1 ∨ i = 2 ∨ i = 3 ∨ i = 4 ∨ i = 5 ∨ i = 6 ∨ i = 7 ∨ i = 8 ∨ i = 9 ∨ i = 10) with rfl | rfl | rfl | rfl | rfl | rfl | rfl | rfl | rfl | rfl | rfl
                    · have z0 := (hW.cell (p := ⟨w.heap.size, 0, none⟩) hXl).trans y0
                      have z1 := (hW.cell (p := ⟨w.heap.size, 1, none⟩) hXl).trans y1
                      refine Free.op rfl rfl (fun K hK => ?_)
                      go_simp
                      exact hK _ _ ((HI.out _ _ _).2 ⟨rr, _, v77, v78, v79, v80, v81, v75, v82, v83, v15, v16, rfl, hW, fun _ => rfl, Free.of_set (by decide) l1, Free.of_set (by decide) l2, Free.of_set (by decide) l3, Free.of_set (by decide) l4, Free.of_set (by decide) l5, Free.of_set (by decide) l6, Free.of_set (by decide) l7, Free.of_set (by decide) l8, Free.of_set (by decide) l9, Free.of_set (by decide) l10, Free.of_set (by decide) lq, fun e => Free.fore (by decide) (ld6 (Free.back (by decide) e)), fun e => Free.fore (by decide) (ld7 (Free.back (by decide) e)), fun e => Free.fore (by decide) (ld8 (Free.back (by decide) e)), fun e => Free.fore (by decide) (ld9 (Free.back (by decide) e)), fun e => Free.fore (by decide) (ld10 (Free.back (by decide) e))⟩)
                    · refine Free.op rfl rfl (fun K hK => ?_)
                      go_simp
                      exact hK _ _ ((HI.out _ _ _).2 ⟨rr, v76, _, v78, v79, v80, v81, v75, v82, v83, v15, v16, rfl, hW, Free.of_set (by decide) l0, fun _ => rfl, Free.of_set (by decide) l2, Free.of_set (by decide) l3, Free.of_set (by decide) l4, Free.of_set (by decide) l5, Free.of_set (by decide) l6, Free.of_set (by decide) l7, Free.of_set (by decide) l8, Free.of_set (by decide) l9, Free.of_set (by decide) l10, Free.of_set (by decide) lq, fun e => Free.fore (by decide) (ld6 (Free.back (by decide) e)), fun e => Free.fore (by decide) (ld7 (Free.back (by decide) e)), fun e => Free.fore (by decide) (ld8 (Free.back (by decide) e)), fun e => Free.fore (by decide) (ld9 (Free.back (by decide) e)), fun e => Free.fore (by decide) (ld10 (Free.back (by decide) e))⟩)
                    · refine Free.op rfl rfl (fun K hK => ?_)
                      go_simp
                      exact hK _ _ ((HI.out _ _ _).2 ⟨rr, v76, v77, _, v79, v80, v81, v75, v82, v83, v15, v16, rfl, hW, Free.of_set (by decide) l0, Free.of_set (by decide) l1, fun _ => rfl, Free.of_set (by decide) l3, Free.of_set (by decide) l4, Free.of_set (by decide) l5, Free.of_set (by decide) l6, Free.of_set (by decide) l7, Free.of_set (by decide) l8, Free.of_set (by decide) l9, Free.of_set (by decide) l10, Free.of_set (by decide) lq, fun e => Free.fore (by decide) (ld6 (Free.back (by decide) e)), fun e => Free.fore (by decide) (ld7 (Free.back (by decide) e)), fun e => Free.fore (by decide) (ld8 (Free.back (by decide) e)), fun e => Free.fore (by decide) (ld9 (Free.back (by decide) e)), fun e => Free.fore (by decide) (ld10 (Free.back (by decide) e))⟩)
                    · refine Free.op rfl rfl (fun K hK => ?_)
                      obtain rfl := l1 (hne 1 (by kernel_rfl))
                      obtain rfl := l2 (hne 2 (by kernel_rfl))
                      go_simp
                      exact hK _ _ ((HI.out _ _ _).2 ⟨rr, v76, _, _, _, v80, v81, v75, v82, v83, v15, v16, rfl, hW, Free.of_set (by decide) l0, fun _ => rfl, fun _ => rfl, fun _ => rfl, Free.of_set (by decide) l4, Free.of_set (by decide) l5, Free.of_set (by decide) l6, Free.of_set (by decide) l7, Free.of_set (by decide) l8, Free.of_set (by decide) l9, Free.of_set (by decide) l10, Free.of_set (by decide) lq, fun e => Free.fore (by decide) (ld6 (Free.back (by decide) e)), fun e => Free.fore (by decide) (ld7 (Free.back (by decide) e)), fun e => Free.fore (by decide) (ld8 (Free.back (by decide) e)), fun e => Free.fore (by decide) (ld9 (Free.back (by decide) e)), fun e => Free.fore (by decide) (ld10 (Free.back (by decide) e))⟩)
                    · have z := (hW.cell (p := ⟨b6, o6 + k, none⟩) hk6).trans y6
                      refine Free.op rfl rfl (fun K hK => ?_)
                      obtain rfl := l3 (hne 3 (by kernel_rfl))
                      go_simp
                      exact hK _ _ ((HI.out _ _ _).2 ⟨rr, v76, v77, v78, _, _, v81, v75, v82, v83, v15, v16, rfl, hW, Free.of_set (by decide) l0, Free.of_set (by decide) l1, Free.of_set (by decide) l2, fun _ => rfl, fun _ => rfl, Free.of_set (by decide) l5, Free.of_set (by decide) l6, Free.of_set (by decide) l7, Free.of_set (by decide) l8, Free.of_set (by decide) l9, Free.of_set (by decide) l10, Free.of_set (by decide) lq, fun e => Free.fore (by decide) (ld6 (Free.back (by decide) e)), fun e => Free.fore (by decide) (ld7 (Free.back (by decide) e)), fun e => Free.fore (by decide) (ld8 (Free.back (by decide) e)), fun e => Free.fore (by decide) (ld9 (Free.back (by decide) e)), fun e => Free.fore (by decide) (ld10 (Free.back (by decide) e))⟩)
                    · refine Free.op rfl rfl (fun K hK => ?_)
                      obtain rfl := l0 (hne 0 (by kernel_rfl))
                      obtain rfl := l4 (hne 4 (by kernel_rfl))
                      go_wp2_with (go_at_call 13; refine (HNX _ (hLF.step hW) (hLP.step hW) (e6.step hW)).out.mono ?_; rintro e W3 ⟨r, rfl, hq1, hb⟩)
                      exact (HI.out _ _ _).2 ⟨_, _, v77, v78, v79, _, _, v75, v82, v83, v15, v16, rfl, hW.trans (hb.mono hW.size), fun _ => rfl, Free.of_set (by decide) l1, Free.of_set (by decide) l2, Free.of_set (by decide) l3, fun _ => rfl, fun _ => rfl, Free.never ld6 hnl (by decide), Free.never ld7 hnl (by decide), Free.never ld8 hnl (by decide), Free.never ld9 hnl (by decide), Free.never ld10 hnl (by decide), fun _ => hq1, Free.never ld6 hnl (by decide), Free.never ld7 hnl (by decide), Free.never ld8 hnl (by decide), Free.never ld9 hnl (by decide), Free.never ld10 hnl (by decide)⟩
                    · refine Free.op rfl rfl (fun K hK => ?_)
                      obtain rfl := l5 (hne 5 (by kernel_rfl))
                      go_simp
                      exact hK _ _ ((HI.out _ _ _).2 ⟨rr, v76, v77, v78, v79, v80, _, _, v82, v83, v15, v16, rfl, hW, Free.of_set (by decide) l0, Free.of_set (by decide) l1, Free.of_set (by decide) l2, Free.of_set (by decide) l3, Free.of_set (by decide) l4, fun _ => rfl, fun _ => rfl, Free.of_set (by decide) l7, Free.of_set (by decide) l8, Free.of_set (by decide) l9, Free.of_set (by decide) l10, Free.of_set (by decide) lq, fun _ => Free.fore (by decide) (hne 5 (by kernel_rfl)), fun e => Free.fore (by decide) (ld7 (Free.back (by decide) e)), fun e => Free.fore (by decide) (ld8 (Free.back (by decide) e)), fun e => Free.fore (by decide) (ld9 (Free.back (by decide) e)), fun e => Free.fore (by decide) (ld10 (Free.back (by decide) e))⟩)
                    · refine Free.op rfl rfl (fun K hK => ?_)
                      obtain rfl := l6 (hne 6 (by kernel_rfl))
                      go_simp
                      exact hK _ _ ((HI.out _ _ _).2 ⟨rr, v76, v77, v78, v79, v80, v81, _, _, v83, v15, v16, rfl, hW, Free.of_set (by decide) l0, Free.of_set (by decide) l1, Free.of_set (by decide) l2, Free.of_set (by decide) l3, Free.of_set (by decide) l4, Free.of_set (by decide) l5, fun _ => rfl, fun _ => rfl, Free.of_set (by decide) l8, Free.of_set (by decide) l9, Free.of_set (by decide) l10, Free.of_set (by decide) lq, fun e => Free.fore (by decide) (ld6 (Free.back (by decide) e)), fun _ => Free.fore (by decide) (ld6 (hne 6 (by kernel_rfl))), fun e => Free.fore (by decide) (ld8 (Free.back (by decide) e)), fun e => Free.fore (by decide) (ld9 (Free.back (by decide) e)), fun e => Free.fore (by decide) (ld10 (Free.back (by decide) e))⟩)
                    · refine Free.op rfl rfl (fun K hK => ?_)
                      obtain rfl := l6 (hne 6 (by kernel_rfl))
                      go_simp
                      exact hK _ _ ((HI.out _ _ _).2 ⟨rr, v76, v77, v78, v79, v80, v81, _, v82, _, v15, v16, rfl, hW, Free.of_set (by decide) l0, Free.of_set (by decide) l1, Free.of_set (by decide) l2, Free.of_set (by decide) l3, Free.of_set (by decide) l4, Free.of_set (by decide) l5, fun _ => rfl, Free.of_set (by decide) l7, fun _ => rfl, Free.of_set (by decide) l9, Free.of_set (by decide) l10, Free.of_set (by decide) lq, fun e => Free.fore (by decide) (ld6 (Free.back (by decide) e)), fun e => Free.fore (by decide) (ld7 (Free.back (by decide) e)), fun _ => Free.fore (by decide) (ld6 (hne 6 (by kernel_rfl))), fun e => Free.fore (by decide) (ld9 (Free.back (by decide) e)), fun e => Free.fore (by decide) (ld10 (Free.back (by decide) e))⟩)
                    · refine Free.op rfl rfl (fun K hK => ?_)
                      obtain rfl := (l7 (hne 7 (by kernel_rfl))).symm
                      go_simp
                      exact hK _ _ ((HI.out _ _ _).2 ⟨rr, v76, v77, v78, v79, v80, v81, v75, _, v83, _, v16, rfl, hW, Free.of_set (by decide) l0, Free.of_set (by decide) l1, Free.of_set (by decide) l2, Free.of_set (by decide) l3, Free.of_set (by decide) l4, Free.of_set (by decide) l5, Free.of_set (by decide) l6, fun _ => rfl, Free.of_set (by decide) l8, fun _ => rfl, Free.of_set (by decide) l10, Free.of_set (by decide) lq, fun e => Free.fore (by decide) (ld6 (Free.back (by decide) e)), fun e => Free.fore (by decide) (ld7 (Free.back (by decide) e)), fun e => Free.fore (by decide) (ld8 (Free.back (by decide) e)), fun _ => Free.fore (by decide) (ld7 (hne 7 (by kernel_rfl))), fun e => Free.fore (by decide) (ld10 (Free.back (by decide) e))⟩)
                    · refine Free.op rfl rfl (fun K hK => ?_)
                      obtain rfl := l8 (hne 8 (by kernel_rfl))
                      go_simp
                      exact hK _ _ ((HI.out _ _ _).2 ⟨rr, v76, v77, v78, v79, v80, v81, v75, v82, _, v15, _, rfl, hW, Free.of_set (by decide) l0, Free.of_set (by decide) l1, Free.of_set (by decide) l2, Free.of_set (by decide) l3, Free.of_set (by decide) l4, Free.of_set (by decide) l5, Free.of_set (by decide) l6, Free.of_set (by decide) l7, fun _ => rfl, Free.of_set (by decide) l9, fun _ => rfl, Free.of_set (by decide) lq, fun e => Free.fore (by decide) (ld6 (Free.back (by decide) e)), fun e => Free.fore (by decide) (ld7 (Free.back (by decide) e)), fun e => Free.fore (by decide) (ld8 (Free.back (by decide) e)), fun e => Free.fore (by decide) (ld9 (Free.back (by decide) e)), fun _ => Free.fore (by decide) (ld8 (hne 8 (by kernel_rfl)))⟩)
                  case s3 =>
                    intro listed aq W1 hall hsz hv
                    obtain ⟨rr, v76, v77, v78, v79, v80, v81, v75, v82, v83, v15, v16, rfl, hW, l0, l1, l2, l3, l4, l5, l6, l7, l8, l9, l10, lq, ld6, ld7, ld8, ld9, ld10⟩ := (HI.out _ _ _).1 hv
                    clear hv HI
                    obtain rfl := l0 (Free.listed_of hall hsz 0 (by decide))
                    obtain rfl := l1 (Free.listed_of hall hsz 1 (by decide))
                    obtain rfl := l2 (Free.listed_of hall hsz 2 (by decide))
                    obtain rfl := l3 (Free.listed_of hall hsz 3 (by decide))
                    obtain rfl := l4 (Free.listed_of hall hsz 4 (by decide))
                    obtain rfl := l5 (Free.listed_of hall hsz 5 (by decide))
                    obtain rfl := l6 (Free.listed_of hall hsz 6 (by decide))
                    obtain rfl := (l7 (Free.listed_of hall hsz 7 (by decide))).symm
                    obtain rfl := l8 (Free.listed_of hall hsz 8 (by decide))
                    obtain rfl := (l9 (Free.listed_of hall hsz 9 (by decide))).symm
                    obtain rfl := l10 (Free.listed_of hall hsz 10 (by decide))
                    have hq := lq (Free.listed_of hall hsz 5 (by decide))
                    clear lq ld6 ld7 ld8 ld9 ld10
                    clear hall hsz
                    replace hF := hF.step hW
                    replace hv := hv.step hW
                    replace hw := hw.step hW
                    obtain ⟨a8, c8, rfl, -⟩ := (id hq)
                    clear hW y6 e6 HNX hLF hLP y0 y1
                    have y0 := (hF.below.cell (p := ⟨w.heap.size, 0, none⟩) h1).trans c0
                    have y1 := (hF.below.cell (p := ⟨w.heap.size, 1, none⟩) h1).trans c1
                    go_wp2_with (go_at_call 14; refine (HHB _ _ hv hq).out.mono ?_; rintro e wn ⟨r5, rfl, hv5, hb⟩; replace hw := hw.step hb; replace hF := hF.step hb; clear hb; clear y0 y1; have y0 := (hF.below.cell (p := ⟨w.heap.size, 0, none⟩) h1).trans c0; have y1 := (hF.below.cell (p := ⟨w.heap.size, 1, none⟩) h1).trans c1; clear HHB hv hq)
                    exact ⟨⟨k + 1, by omega, by simp, by rw [HT.out] <;> rfl, by rw [HT.out]; exact hv5, hw, hF⟩, by simp [intOf]; omega⟩

              · have kc : (Z.2 != 0) = true := by simpa using hc
                have e4 := HE4.out hc
                rw [if_neg hc] at HTS
                have HT : Hid (Um.covN s p PA.1 (k + 1) = ([], Z.2)) := by rw [HTS.out, e4]; exact hid rfl
                clear HTS HCB HNB hc HE4 e4 HZ0
                generalize Um.covN s p PA.1 k = Y at *
                go_wp2
                obtain ⟨Inv, hInv⟩ : ∃ Inv : Array Bool → Act → World → Prop, ∀ listed aq W', Inv listed aq W' ↔ (∃ rr v76 v77 v78 v79 v80 v81 v75 v82 v83 v15 v16 : Value, aq = { tmps := #[Value.agg #[Value.slice a0 s.length cap0, Value.slice a1 p.length cap1], Value.slice a2 b.length cap2, Value.int IntKind.i64 ↑m, Value.pointer (some { block := w.heap.size, off := 0 }), undef, undef, Value.bool false, Value.int IntKind.i64 PF, Value.slice (some { block := b6, off := o6 }) PA.fst.length cap6, Value.slice s2 PA.fst.length d2, errV PF, Value.bool true, Value.int IntKind.i64 Y.snd, Value.slice a9 Y.fst.length c9, Value.int IntKind.i64 ↑k, v15, v16, undef, undef, u19, u20, u21, u22, u23, u24, u25, u26, u27, u28, u29, u30, u31, u32, u33, u34, u35, u36, u37, u38, u39, u40, u41, u42, u43, u44, u45, u46, u47, u48, u49, u50, u51, u52, u53, u54, u55, u56, u57, u58, u59, u60, u61, u62, u63, u64, Value.int IntKind.i64 ↑k, Value.slice (some { block := b6, off := o6 }) PA.fst.length cap6, Value.int IntKind.i64 ↑PA.fst.length, Value.bool true, Value.bool true, Value.int IntKind.i64 Y.snd, Value.bool true, Value.bool true, u73, u74, v75, v76, v77, v78, v79, v80, v81, v82, v83, u84, u85, u86, u87, u88, u89, u90, u91, u92, undef, undef, undef, undef, undef, undef, undef, undef, undef, undef, undef, undef, undef, undef, undef, undef, undef, undef, undef], defers := [] } ∧ Below (wr).heap.size (wr) W' ∧ (listed.getD 0 false = true → v76 = (.agg #[.slice a0 s.length cap0, .slice a1 p.length cap1])) ∧ (listed.getD 1 false = true → v77 = Value.slice (some { block := b6, off := o6 }) PA.fst.length cap6) ∧ (listed.getD 2 false = true → v78 = Value.int IntKind.i64 ↑k) ∧ (listed.getD 3 false = true → v79 = .pointer (some ⟨b6, o6 + k, none⟩)) ∧ (listed.getD 4 false = true → v80 = x6) ∧ (listed.getD 5 false = true → v81 = (.tuple #[rr, .int .i64 Z.2])) ∧ (listed.getD 6 false = true → v75 = (.tuple #[rr, .int .i64 Z.2])) ∧ (listed.getD 7 false = true → v82 = rr) ∧ (listed.getD 8 false = true → v83 = .int .i64 Z.2) ∧ (listed.getD 9 false = true → v15 = rr) ∧ (listed.getD 10 false = true → v16 = .int .i64 Z.2) ∧ (listed.getD 5 false = true → Ls W'.heap.size W' rr Z.1) ∧ (listed.getD 6 false = true → listed.getD 5 false = true) ∧ (listed.getD 7 false = true → listed.getD 5 false = true) ∧ (listed.getD 8 false = true → listed.getD 5 false = true) ∧ (listed.getD 9 false = true → listed.getD 5 false = true) ∧ (listed.getD 10 false = true → listed.getD 5 false = true)) := ⟨_, fun _ _ _ => Iff.rfl⟩
                have HI := hid hInv
                clear hInv
                refine Free.region hmx (by kernel_rfl) Inv ?s1 ?s2 ?s3
                case s1 =>
                  exact (HI.out _ _ _).2 ⟨undef, u76, u77, u78, u79, u80, u81, u75, u82, u83, u15, u16, rfl, (Below.refl _ _).drew, Free.not_yet, Free.not_yet, Free.not_yet, Free.not_yet, Free.not_yet, Free.not_yet, Free.not_yet, Free.not_yet, Free.not_yet, Free.not_yet, Free.not_yet, Free.not_yet, Free.not_yet, Free.not_yet, Free.not_yet, Free.not_yet, Free.not_yet⟩
                case s2 =>
                  intro i listed aq W1 hix hne hnl hsz hv
                  obtain ⟨rr, v76, v77, v78, v79, v80, v81, v75, v82, v83, v15, v16, rfl, hW, l0, l1, l2, l3, l4, l5, l6, l7, l8, l9, l10, lq, ld6, ld7, ld8, ld9, ld10⟩ := (HI.out _ _ _).1 hv
                  clear hv
                  replace hix : i < 11 := hix
                  replace hsz : listed.size = 11 := hsz
                  rcases (by omega : i = 0 ∨ i = 1 ∨ i = 2 ∨ i = 3 ∨ i = 4 ∨ i = 5 ∨ i = 6 ∨ i = 7 ∨ i = 8 ∨ i = 9 ∨ i = 10) with rfl | rfl | rfl | rfl | rfl | rfl | rfl | rfl | rfl | rfl | rfl
                  · have z0 := (hW.cell (p := ⟨w.heap.size, 0, none⟩) hXl).trans y0
                    have z1 := (hW.cell (p := ⟨w.heap.size, 1, none⟩) hXl).trans y1
                    refine Free.op rfl rfl (fun K hK => ?_)
                    go_simp
                    exact hK _ _ ((HI.out _ _ _).2 ⟨rr, _, v77, v78, v79, v80, v81, v75, v82, v83, v15, v16, rfl, hW, fun _ => rfl, Free.of_set (by decide) l1, Free.of_set (by decide) l2, Free.of_set (by decide) l3, Free.of_set (by decide) l4, Free.of_set (by decide) l5, Free.of_set (by decide) l6, Free.of_set (by decide) l7, Free.of_set (by decide) l8, Free.of_set (by decide) l9, Free.of_set (by decide) l10, Free.of_set (by decide) lq, fun e => Free.fore (by decide) (ld6 (Free.back (by decide) e)), fun e => Free.fore (by decide) (ld7 (Free.back (by decide) e)), fun e => Free.fore (by decide) (ld8 (Free.back (by decide) e)), fun e => Free.fore (by decide) (ld9 (Free.back (by decide) e)), fun e => Free.fore (by decide) (ld10 (Free.back (by decide) e))⟩)
                  · refine Free.op rfl rfl (fun K hK => ?_)
                    go_simp
                    exact hK _ _ ((HI.out _ _ _).2 ⟨rr, v76, _, v78, v79, v80, v81, v75, v82, v83, v15, v16, rfl, hW, Free.of_set (by decide) l0, fun _ => rfl, Free.of_set (by decide) l2, Free.of_set (by decide) l3, Free.of_set (by decide) l4, Free.of_set (by decide) l5, Free.of_set (by decide) l6, Free.of_set (by decide) l7, Free.of_set (by decide) l8, Free.of_set (by decide) l9, Free.of_set (by decide) l10, Free.of_set (by decide) lq, fun e => Free.fore (by decide) (ld6 (Free.back (by decide) e)), fun e => Free.fore (by decide) (ld7 (Free.back (by decide) e)), fun e => Free.fore (by decide) (ld8 (Free.back (by decide) e)), fun e => Free.fore (by decide) (ld9 (Free.back (by decide) e)), fun e => Free.fore (by decide) (ld10 (Free.back (by decide) e))⟩)
                  · refine Free.op rfl rfl (fun K hK => ?_)
                    go_simp
                    exact hK _ _ ((HI.out _ _ _).2 ⟨rr, v76, v77, _, v79, v80, v81, v75, v82, v83, v15, v16, rfl, hW, Free.of_set (by decide) l0, Free.of_set (by decide) l1, fun _ => rfl, Free.of_set (by decide) l3, Free.of_set (by decide) l4, Free.of_set (by decide) l5, Free.of_set (by decide) l6, Free.of_set (by decide) l7, Free.of_set (by decide) l8, Free.of_set (by decide) l9, Free.of_set (by decide) l10, Free.of_set (by decide) lq, fun e => Free.fore (by decide) (ld6 (Free.back (by decide) e)), fun e => Free.fore (by decide) (ld7 (Free.back (by decide) e)), fun e => Free.fore (by decide) (ld8 (Free.back (by decide) e)), fun e => Free.fore (by decide) (ld9 (Free.back (by decide) e)), fun e => Free.fore (by decide) (ld10 (Free.back (by decide) e))⟩)
                  · refine Free.op rfl rfl (fun K hK => ?_)
                    obtain rfl := l1 (hne 1 (by kernel_rfl))
                    obtain rfl := l2 (hne 2 (by kernel_rfl))
                    go_simp
                    exact hK _ _ ((HI.out _ _ _).2 ⟨rr, v76, _, _, _, v80, v81, v75, v82, v83, v15, v16, rfl, hW, Free.of_set (by decide) l0, fun _ => rfl, fun _ => rfl, fun _ => rfl, Free.of_set (by decide) l4, Free.of_set (by decide) l5, Free.of_set (by decide) l6, Free.of_set (by decide) l7, Free.of_set (by decide) l8, Free.of_set (by decide) l9, Free.of_set (by decide) l10, Free.of_set (by decide) lq, fun e => Free.fore (by decide) (ld6 (Free.back (by decide) e)), fun e => Free.fore (by decide) (ld7 (Free.back (by decide) e)), fun e => Free.fore (by decide) (ld8 (Free.back (by decide) e)), fun e => Free.fore (by decide) (ld9 (Free.back (by decide) e)), fun e => Free.fore (by decide) (ld10 (Free.back (by decide) e))⟩)
                  · have z := (hW.cell (p := ⟨b6, o6 + k, none⟩) hk6).trans y6
                    refine Free.op rfl rfl (fun K hK => ?_)
                    obtain rfl := l3 (hne 3 (by kernel_rfl))
                    go_simp
                    exact hK _ _ ((HI.out _ _ _).2 ⟨rr, v76, v77, v78, _, _, v81, v75, v82, v83, v15, v16, rfl, hW, Free.of_set (by decide) l0, Free.of_set (by decide) l1, Free.of_set (by decide) l2, fun _ => rfl, fun _ => rfl, Free.of_set (by decide) l5, Free.of_set (by decide) l6, Free.of_set (by decide) l7, Free.of_set (by decide) l8, Free.of_set (by decide) l9, Free.of_set (by decide) l10, Free.of_set (by decide) lq, fun e => Free.fore (by decide) (ld6 (Free.back (by decide) e)), fun e => Free.fore (by decide) (ld7 (Free.back (by decide) e)), fun e => Free.fore (by decide) (ld8 (Free.back (by decide) e)), fun e => Free.fore (by decide) (ld9 (Free.back (by decide) e)), fun e => Free.fore (by decide) (ld10 (Free.back (by decide) e))⟩)
                  · refine Free.op rfl rfl (fun K hK => ?_)
                    obtain rfl := l0 (hne 0 (by kernel_rfl))
                    obtain rfl := l4 (hne 4 (by kernel_rfl))
                    go_wp2_with (go_at_call 13; refine (HNX _ (hLF.step hW) (hLP.step hW) (e6.step hW)).out.mono ?_; rintro e W3 ⟨r, rfl, hq1, hb⟩)
                    exact (HI.out _ _ _).2 ⟨_, _, v77, v78, v79, _, _, v75, v82, v83, v15, v16, rfl, hW.trans (hb.mono hW.size), fun _ => rfl, Free.of_set (by decide) l1, Free.of_set (by decide) l2, Free.of_set (by decide) l3, fun _ => rfl, fun _ => rfl, Free.never ld6 hnl (by decide), Free.never ld7 hnl (by decide), Free.never ld8 hnl (by decide), Free.never ld9 hnl (by decide), Free.never ld10 hnl (by decide), fun _ => hq1, Free.never ld6 hnl (by decide), Free.never ld7 hnl (by decide), Free.never ld8 hnl (by decide), Free.never ld9 hnl (by decide), Free.never ld10 hnl (by decide)⟩
                  · refine Free.op rfl rfl (fun K hK => ?_)
                    obtain rfl := l5 (hne 5 (by kernel_rfl))
                    go_simp
                    exact hK _ _ ((HI.out _ _ _).2 ⟨rr, v76, v77, v78, v79, v80, _, _, v82, v83, v15, v16, rfl, hW, Free.of_set (by decide) l0, Free.of_set (by decide) l1, Free.of_set (by decide) l2, Free.of_set (by decide) l3, Free.of_set (by decide) l4, fun _ => rfl, fun _ => rfl, Free.of_set (by decide) l7, Free.of_set (by decide) l8, Free.of_set (by decide) l9, Free.of_set (by decide) l10, Free.of_set (by decide) lq, fun _ => Free.fore (by decide) (hne 5 (by kernel_rfl)), fun e => Free.fore (by decide) (ld7 (Free.back (by decide) e)), fun e => Free.fore (by decide) (ld8 (Free.back (by decide) e)), fun e => Free.fore (by decide) (ld9 (Free.back (by decide) e)), fun e => Free.fore (by decide) (ld10 (Free.back (by decide) e))⟩)
                  · refine Free.op rfl rfl (fun K hK => ?_)
                    obtain rfl := l6 (hne 6 (by kernel_rfl))
                    go_simp
                    exact hK _ _ ((HI.out _ _ _).2 ⟨rr, v76, v77, v78, v79, v80, v81, _, _, v83, v15, v16, rfl, hW, Free.of_set (by decide) l0, Free.of_set (by decide) l1, Free.of_set (by decide) l2, Free.of_set (by decide) l3, Free.of_set (by decide) l4, Free.of_set (by decide) l5, fun _ => rfl, fun _ => rfl, Free.of_set (by decide) l8, Free.of_set (by decide) l9, Free.of_set (by decide) l10, Free.of_set (by decide) lq, fun e => Free.fore (by decide) (ld6 (Free.back (by decide) e)), fun _ => Free.fore (by decide) (ld6 (hne 6 (by kernel_rfl))), fun e => Free.fore (by decide) (ld8 (Free.back (by decide) e)), fun e => Free.fore (by decide) (ld9 (Free.back (by decide) e)), fun e => Free.fore (by decide) (ld10 (Free.back (by decide) e))⟩)
                  · refine Free.op rfl rfl (fun K hK => ?_)
                    obtain rfl := l6 (hne 6 (by kernel_rfl))
                    go_simp
                    exact hK _ _ ((HI.out _ _ _).2 ⟨rr, v76, v77, v78, v79, v80, v81, _, v82, _, v15, v16, rfl, hW, Free.of_set (by decide) l0, Free.of_set (by decide) l1, Free.of_set (by decide) l2, Free.of_set (by decide) l3, Free.of_set (by decide) l4, Free.of_set (by decide) l5, fun _ => rfl, Free.of_set (by decide) l7, fun _ => rfl, Free.of_set (by decide) l9, Free.of_set (by decide) l10, Free.of_set (by decide) lq, fun e => Free.fore (by decide) (ld6 (Free.back (by decide) e)), fun e => Free.fore (by decide) (ld7 (Free.back (by decide) e)), fun _ => Free.fore (by decide) (ld6 (hne 6 (by kernel_rfl))), fun e => Free.fore (by decide) (ld9 (Free.back (by decide) e)), fun e => Free.fore (by decide) (ld10 (Free.back (by decide) e))⟩)
                  · refine Free.op rfl rfl (fun K hK => ?_)
                    obtain rfl := (l7 (hne 7 (by kernel_rfl))).symm
                    go_simp
                    exact hK _ _ ((HI.out _ _ _).2 ⟨rr, v76, v77, v78, v79, v80, v81, v75, _, v83, _, v16, rfl, hW, Free.of_set (by decide) l0, Free.of_set (by decide) l1, Free.of_set (by decide) l2, Free.of_set (by decide) l3, Free.of_set (by decide) l4, Free.of_set (by decide) l5, Free.of_set (by decide) l6, fun _ => rfl, Free.of_set (by decide) l8, fun _ => rfl, Free.of_set (by decide) l10, Free.of_set (by decide) lq, fun e => Free.fore (by decide) (ld6 (Free.back (by decide) e)), fun e => Free.fore (by decide) (ld7 (Free.back (by decide) e)), fun e => Free.fore (by decide) (ld8 (Free.back (by decide) e)), fun _ => Free.fore (by decide) (ld7 (hne 7 (by kernel_rfl))), fun e => Free.fore (by decide) (ld10 (Free.back (by decide) e))⟩)
                  · refine Free.op rfl rfl (fun K hK => ?_)
                    obtain rfl := l8 (hne 8 (by kernel_rfl))
                    go_simp
                    exact hK _ _ ((HI.out _ _ _).2 ⟨rr, v76, v77, v78, v79, v80, v81, v75, v82, _, v15, _, rfl, hW, Free.of_set (by decide) l0, Free.of_set (by decide) l1, Free.of_set (by decide) l2, Free.of_set (by decide) l3, Free.of_set (by decide) l4, Free.of_set (by decide) l5, Free.of_set (by decide) l6, Free.of_set (by decide) l7, fun _ => rfl, Free.of_set (by decide) l9, fun _ => rfl, Free.of_set (by decide) lq, fun e => Free.fore (by decide) (ld6 (Free.back (by decide) e)), fun e => Free.fore (by decide) (ld7 (Free.back (by decide) e)), fun e => Free.fore (by decide) (ld8 (Free.back (by decide) e)), fun e => Free.fore (by decide) (ld9 (Free.back (by decide) e)), fun _ => Free.fore (by decide) (ld8 (hne 8 (by kernel_rfl)))⟩)
                case s3 =>
                  intro listed aq W1 hall hsz hv
                  obtain ⟨rr, v76, v77, v78, v79, v80, v81, v75, v82, v83, v15, v16, rfl, hW, l0, l1, l2, l3, l4, l5, l6, l7, l8, l9, l10, lq, ld6, ld7, ld8, ld9, ld10⟩ := (HI.out _ _ _).1 hv
                  clear hv HI
                  obtain rfl := l0 (Free.listed_of hall hsz 0 (by decide))
                  obtain rfl := l1 (Free.listed_of hall hsz 1 (by decide))
                  obtain rfl := l2 (Free.listed_of hall hsz 2 (by decide))
                  obtain rfl := l3 (Free.listed_of hall hsz 3 (by decide))
                  obtain rfl := l4 (Free.listed_of hall hsz 4 (by decide))
                  obtain rfl := l5 (Free.listed_of hall hsz 5 (by decide))
                  obtain rfl := l6 (Free.listed_of hall hsz 6 (by decide))
                  obtain rfl := (l7 (Free.listed_of hall hsz 7 (by decide))).symm
                  obtain rfl := l8 (Free.listed_of hall hsz 8 (by decide))
                  obtain rfl := (l9 (Free.listed_of hall hsz 9 (by decide))).symm
                  obtain rfl := l10 (Free.listed_of hall hsz 10 (by decide))
                  have hq := lq (Free.listed_of hall hsz 5 (by decide))
                  clear lq ld6 ld7 ld8 ld9 ld10
                  clear hall hsz
                  replace hF := hF.step hW
                  replace hv := hv.step hW
                  replace hw := hw.step hW
                  obtain ⟨a8, c8, rfl, -⟩ := (id hq)
                  clear hW y6 e6 HNX hLF hLP y0 y1
                  have y0 := (hF.below.cell (p := ⟨w.heap.size, 0, none⟩) h1).trans c0
                  have y1 := (hF.below.cell (p := ⟨w.heap.size, 1, none⟩) h1).trans c1
                  have hv0 : Ls W1.heap.size W1 (.slice none 0 0) [] := Ls.nil _ _
                  go_wp2
                  exact ⟨⟨k + 1, by omega, by simp, by rw [HT.out] <;> rfl, by rw [HT.out]; exact hv0, hw, hF⟩, by simp [intOf]; omega⟩

            · have HEQ : Um.covAll s p b m = Um.covN s p PA.1 k := by
                rw [HCI.out]
                by_cases hkl : k < PA.1.length
                · have hz : ¬ (Um.covN s p PA.1 k).2 = 0 := fun g => hkz ⟨hkl, g⟩
                  have := Um.cov_stay hz (PA.1.length - k)
                  rw [show k + (PA.1.length - k) = PA.1.length by omega] at this
                  rw [this, (Um.cov_fault s p PA.1 k).resolve_left hz]
                · rw [show PA.1.length = k by omega]
              have HAL0 := HAM.out
              rw [HEQ] at HAL0
              have HCS := fun w h1 h2 h3 => hid (step_is HEQ (.slice a0 s.length cap0) (.slice a1 p.length cap1) (.slice a2 b.length cap2) w h1 h2 h3)
              have HKZ : Hid (k < PA.1.length → ¬ (Um.covN s p PA.1 k).2 = 0) := hid fun g c => hkz ⟨g, c⟩
              clear HEQ HRD HCI HAM hkz
              generalize Um.covN s p PA.1 k = Y at *
              obtain ⟨AL, hAL⟩ : ∃ AL, AL = Y.1 := ⟨_, rfl⟩
              rw [← hAL] at hv HCS HAL0
              have HAL : Hid (AL.length ≤ 1000) := hid (by omega)
              rw [← hAL]
              clear hAL HAL0
              by_cases hkl : k < PA.1.length
              · have hkk : decide ((k : Int) < (PA.1.length : Int)) = true := decide_eq_true (by omega)
                have kz : (Y.2 == 0) = false := by simpa using HKZ.out hkl
                clear HKZ hw
                go_upto_region 25 with fail
                go_upto_region 26 with (go_at_call 15; refine (HCS _ (hF.lf hf2) (hF.ls hp2) (hF.ls hb2)).out.mono ?_; rintro e wn ⟨r4, rfl, hh, hb⟩; replace hv := hv.step hb; replace hF := hF.step hb; clear hb; clear y0 y1; have y0 := (hF.below.cell (p := ⟨w.heap.size, 0, none⟩) h1).trans c0; have y1 := (hF.below.cell (p := ⟨w.heap.size, 1, none⟩) h1).trans c1; obtain ⟨s4, d4, rfl, -⟩ := (id hh); clear HCS)
                go_upto_region 27 with (first | (go_at_call 10; refine (hid (same_any _ _ _ (hg.below (B := w.heap.size) (hBW.trans (hF.below.mono hBW.size)) hg.size))).out.mono ?_; rintro e wn ⟨rfl, hb⟩; replace hv := hv.step hb; replace hh := hh.step hb; replace hF := hF.step hb; clear hb; clear y0 y1; have y0 := (hF.below.cell (p := ⟨w.heap.size, 0, none⟩) h1).trans c0; have y1 := (hF.below.cell (p := ⟨w.heap.size, 1, none⟩) h1).trans c1) | (go_at_call 16; refine (hid (box_same AL _ _ _ hh hv HAL.out)).out.mono ?_; rintro e wn ⟨rfl, hb⟩; replace hF := hF.step hb; clear hb; clear y0 y1; have y0 := (hF.below.cell (p := ⟨w.heap.size, 0, none⟩) h1).trans c0; have y1 := (hF.below.cell (p := ⟨w.heap.size, 1, none⟩) h1).trans c1; clear hh hv))
                go_wp2
                go_returns
                exact ⟨rfl, hBW.trans (hF.below.mono hBW.size)⟩
              · have hkk : decide ((k : Int) < (PA.1.length : Int)) = false := decide_eq_false (by omega)
                clear HKZ hw
                go_upto_region 25 with fail
                go_upto_region 26 with (go_at_call 15; refine (HCS _ (hF.lf hf2) (hF.ls hp2) (hF.ls hb2)).out.mono ?_; rintro e wn ⟨r4, rfl, hh, hb⟩; replace hv := hv.step hb; replace hF := hF.step hb; clear hb; clear y0 y1; have y0 := (hF.below.cell (p := ⟨w.heap.size, 0, none⟩) h1).trans c0; have y1 := (hF.below.cell (p := ⟨w.heap.size, 1, none⟩) h1).trans c1; obtain ⟨s4, d4, rfl, -⟩ := (id hh); clear HCS)
                go_upto_region 27 with (first | (go_at_call 10; refine (hid (same_any _ _ _ (hg.below (B := w.heap.size) (hBW.trans (hF.below.mono hBW.size)) hg.size))).out.mono ?_; rintro e wn ⟨rfl, hb⟩; replace hv := hv.step hb; replace hh := hh.step hb; replace hF := hF.step hb; clear hb; clear y0 y1; have y0 := (hF.below.cell (p := ⟨w.heap.size, 0, none⟩) h1).trans c0; have y1 := (hF.below.cell (p := ⟨w.heap.size, 1, none⟩) h1).trans c1) | (go_at_call 16; refine (hid (box_same AL _ _ _ hh hv HAL.out)).out.mono ?_; rintro e wn ⟨rfl, hb⟩; replace hF := hF.step hb; clear hb; clear y0 y1; have y0 := (hF.below.cell (p := ⟨w.heap.size, 0, none⟩) h1).trans c0; have y1 := (hF.below.cell (p := ⟨w.heap.size, 1, none⟩) h1).trans c1; clear hh hv))
                go_wp2
                go_returns
                exact ⟨rfl, hBW.trans (hF.below.mono hBW.size)⟩
        · have kz : (F2 == 0) = false := by simpa using hz2
          have HEQ : Um.covAll s p b n = ([], F2) := by rw [HF2.out]; exact Um.covAll_not fun g => hz2 (HF2.out.trans g)
          obtain ⟨AL, hAL⟩ : ∃ AL : List (Int × Int), AL = [] := ⟨_, rfl⟩
          rw [← hAL] at HEQ
          have HCS := fun w h1 h2 h3 => hid (step_is HEQ (.slice a0 s.length cap0) (.slice a1 p.length cap1) (.slice a2 b.length cap2) w h1 h2 h3)
          have hv : Ls wc.heap.size wc (.slice none 0 0) AL := by rw [hAL]; exact Ls.nil _ _
          have HAL : Hid (AL.length ≤ 1000) := by rw [hAL]; exact hid (by decide)
          clear HEQ hAL hz2 HF2 HPF ER hw
          have y0 := (hF.below.cell (p := ⟨w.heap.size, 0, none⟩) h1).trans c0
          have y1 := (hF.below.cell (p := ⟨w.heap.size, 1, none⟩) h1).trans c1
          by_cases hkl : 0 < PA.1.length
          · have hkk : decide ((0 : Int) < (PA.1.length : Int)) = true := decide_eq_true (by omega)
            go_wp2
            refine wp_loop_rounds 1 ?_
            rw [rounds_succ]
            go_upto_region 25 with fail
            go_upto_region 26 with (go_at_call 15; refine (HCS _ (hF.lf hf2) (hF.ls hp2) (hF.ls hb2)).out.mono ?_; rintro e wn ⟨r4, rfl, hh, hb⟩; replace hv := hv.step hb; replace hF := hF.step hb; clear hb; clear y0 y1; have y0 := (hF.below.cell (p := ⟨w.heap.size, 0, none⟩) h1).trans c0; have y1 := (hF.below.cell (p := ⟨w.heap.size, 1, none⟩) h1).trans c1; obtain ⟨s4, d4, rfl, -⟩ := (id hh); clear HCS)
            go_upto_region 27 with (first | (go_at_call 10; refine (hid (same_any _ _ _ (hg.below (B := w.heap.size) (hBW.trans (hF.below.mono hBW.size)) hg.size))).out.mono ?_; rintro e wn ⟨rfl, hb⟩; replace hv := hv.step hb; replace hh := hh.step hb; replace hF := hF.step hb; clear hb; clear y0 y1; have y0 := (hF.below.cell (p := ⟨w.heap.size, 0, none⟩) h1).trans c0; have y1 := (hF.below.cell (p := ⟨w.heap.size, 1, none⟩) h1).trans c1) | (go_at_call 16; refine (hid (box_same AL _ _ _ hh hv HAL.out)).out.mono ?_; rintro e wn ⟨rfl, hb⟩; replace hF := hF.step hb; clear hb; clear y0 y1; have y0 := (hF.below.cell (p := ⟨w.heap.size, 0, none⟩) h1).trans c0; have y1 := (hF.below.cell (p := ⟨w.heap.size, 1, none⟩) h1).trans c1; clear hh hv))
            go_wp2
            go_returns
            exact ⟨rfl, hBW.trans (hF.below.mono hBW.size)⟩
          · have hkk : decide ((0 : Int) < (PA.1.length : Int)) = false := decide_eq_false (by omega)
            go_wp2
            refine wp_loop_rounds 1 ?_
            rw [rounds_succ]
            go_upto_region 25 with fail
            go_upto_region 26 with (go_at_call 15; refine (HCS _ (hF.lf hf2) (hF.ls hp2) (hF.ls hb2)).out.mono ?_; rintro e wn ⟨r4, rfl, hh, hb⟩; replace hv := hv.step hb; replace hF := hF.step hb; clear hb; clear y0 y1; have y0 := (hF.below.cell (p := ⟨w.heap.size, 0, none⟩) h1).trans c0; have y1 := (hF.below.cell (p := ⟨w.heap.size, 1, none⟩) h1).trans c1; obtain ⟨s4, d4, rfl, -⟩ := (id hh); clear HCS)
            go_upto_region 27 with (first | (go_at_call 10; refine (hid (same_any _ _ _ (hg.below (B := w.heap.size) (hBW.trans (hF.below.mono hBW.size)) hg.size))).out.mono ?_; rintro e wn ⟨rfl, hb⟩; replace hv := hv.step hb; replace hh := hh.step hb; replace hF := hF.step hb; clear hb; clear y0 y1; have y0 := (hF.below.cell (p := ⟨w.heap.size, 0, none⟩) h1).trans c0; have y1 := (hF.below.cell (p := ⟨w.heap.size, 1, none⟩) h1).trans c1) | (go_at_call 16; refine (hid (box_same AL _ _ _ hh hv HAL.out)).out.mono ?_; rintro e wn ⟨rfl, hb⟩; replace hF := hF.step hb; clear hb; clear y0 y1; have y0 := (hF.below.cell (p := ⟨w.heap.size, 0, none⟩) h1).trans c0; have y1 := (hF.below.cell (p := ⟨w.heap.size, 1, none⟩) h1).trans c1; clear hh hv))
            go_wp2
            go_returns
            exact ⟨rfl, hBW.trans (hF.below.mono hBW.size)⟩
end Go.Proofs.YtkeoafbkbblnaaaDoor.CvTells
