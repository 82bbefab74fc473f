/-
  The walk over 'spanlaw2.FlowTells': for all s, b, steps, x, push it returns true.
-/
import Derived.Test.YtmgabhphnafokaaGreatDoorFlow
import Derived.Test.YtmgabhphnafokaaGreatDoorMaths3
import Derived.Test.YtmgabhphnafokaaGreatDoorMems2
import Derived.LoopTactic
import Derived.Test.YtmgabhphnafokaaGreatDoorBSame
import Derived.Test.YtmgabhphnafokaaGreatDoorRefRun
import Derived.Test.YtmgabhphnafokaaGreatDoorRefMove
import Derived.Test.YtmgabhphnafokaaGreatDoorRefWide
import Derived.Test.YtmgabhphnafokaaGreatDoorSame
import Derived.Deep.CutRange
namespace Go.Proofs.YtmgabhphnafokaaGreatDoor.FlTells
set_option linter.unusedSimpArgs false
open Go.RowKit

theorem path_is {s : List (List Um.Tm)} {p : List (Int × Int)} {x : List Int} {u : List (List Int)} {Z : List (List Int) × Int} (e : Um.pathAll s p x u = Z) (v0 v1 v t : Value) (w : World) (hf : Lf w.heap.size w v0 s) (hp : Ls w.heap.size w v1 p) (hx : Li w.heap.size w v x) (hu : Ll w.heap.size w t u) :
    Calls Tryz.prog 13 #[.agg #[v0, v1], v, t] w fun e w' => ∃ r, e = .returned (.tuple #[r, errV Z.2]) ∧ Ll w'.heap.size w' r Z.1 ∧ Below w.heap.size w w' := by
  subst e
  exact flPath_any s v0 p v1 x v u t w hf hp hx hu

set_option maxRecDepth 100000 in
set_option maxHeartbeats 16000000 in
theorem walk (s : List (List Um.Tm)) (v0 : Value) (p : List (Int × Int)) (v1 : Value) (b : List (Int × Int)) (v : Value) (n : Int) (x : List Int) (t : Value) (u : List (List Int)) (r : Value) (w : World) (hg : HasErr w) (hf : Lf w.heap.size w v0 s) (hp : Ls w.heap.size w v1 p) (hs : Ls w.heap.size w v b) (hx : Li w.heap.size w t x) (hu : Ll w.heap.size w r u) :
    Calls Tryz.prog 3 #[.agg #[v0, v1], v, .int .i64 n, t, r] w fun e w' => e = .returned (.bool true) ∧ Below w.heap.size w w' := by
  have v0 := errV_none
  have q1 := errG
  have q2 := errGn
  have q3 := errE
  have q4 := errN
  have hmx : Tryz.prog.follows .mixedOrders = true := by kernel_rfl
  obtain ⟨a0, cap0, rfl, -⟩ := (id hf)
  obtain ⟨a1, cap1, rfl, -⟩ := (id hp)
  obtain ⟨a2, cap2, rfl, -⟩ := (id hs)
  obtain ⟨a3, cap3, rfl, -⟩ := (id hx)
  obtain ⟨a4, cap4, rfl, -⟩ := (id hu)
  have h1 : w.heap.size < (w.alloc (.cells #[.slice a0 s.length cap0, .slice a1 p.length cap1] 25)).heap.size := by simp
  have hBW : Below w.heap.size w (w.alloc (.cells #[.slice a0 s.length cap0, .slice a1 p.length cap1] 25)) := by go_grown
  obtain ⟨c0, c1⟩ := sys_cells w (.slice a0 s.length cap0) (.slice a1 p.length cap1) 25
  have hF := Fr.start (w.alloc (.cells #[.slice a0 s.length cap0, .slice a1 p.length cap1] 25))
  have hf2 := hf.step hBW
  have hp2 := hp.step hBW
  have hb2 := hs.step hBW
  have hx2 := (hx.keep hBW).wide hBW.size
  have hu2 := hu.step hBW
  have HRR := fun w h1 h2 h3 => hid (rRun_any s (.slice a0 s.length cap0) p (.slice a1 p.length cap1) b (.slice a2 b.length cap2) n w h1 h2 h3)
  have HRU := fun w h1 h2 h3 => hid (flRun_any s (.slice a0 s.length cap0) p (.slice a1 p.length cap1) b (.slice a2 b.length cap2) n w h1 h2 h3)
  have HWI := fun w h1 h2 h3 => hid (flWide_any s (.slice a0 s.length cap0) p (.slice a1 p.length cap1) b (.slice a2 b.length cap2) n w h1 h2 h3)
  have HSY := fun w h1 h2 => hid (rSystem_any s (.slice a0 s.length cap0) p (.slice a1 p.length cap1) w h1 h2)
  have HPA := fun w h1 h2 h3 h4 => hid (flPath_any s (.slice a0 s.length cap0) p (.slice a1 p.length cap1) x (.slice a3 x.length cap3) u (.slice a4 u.length cap4) w h1 h2 h3 h4)
  have HO := Um.tubeAll_most s p b n
  have HO1 := hid (show (Um.tubeAll s p b n).1.length ≤ 1000 by omega)
  have HO2 := hid (fun j hj => (show ((Um.tubeAll s p b n).1[j]?.getD []).length ≤ 1000 by have := (HO.2 j hj).2; omega))
  have HOX := hid HO
  have HWL := hid (show (Um.widesN s p b n).length ≤ 1000 by unfold Um.widesN; rw [List.length_map]; omega)
  have E3 : Hid (¬ (Um.tubeAll s p b n).2 = 0 → (Um.tubeAll s p b n).1 = []) := Um.tubeAll_none
  have EW : Hid (Um.widesN s p b n = (Um.tubeAll s p b n).1.map Um.widthOf) := rfl
  obtain ⟨P1, hP1⟩ : ∃ P1, P1 = if 20 < u.length then 4 else Um.sysF s p := ⟨_, rfl⟩
  obtain ⟨P2, hP2⟩ : ∃ P2, P2 = Um.pathF s p x u := ⟨_, rfl⟩
  obtain ⟨ZB, k5⟩ : ∃ ZB, decide (20 < (u.length : Int)) = ZB := ⟨_, rfl⟩
  obtain ⟨ZC, hZC⟩ : ∃ ZC, ZC = decide (P1 = 0 ∧ ¬ x.length = s.length) := ⟨_, rfl⟩
  have E6 : Hid (ZB = true → P1 = 4) := fun h => by rw [← k5] at h; have := of_decide_eq_true h; rw [hP1, if_pos (by omega)]
  have E7 : Hid (ZB = false → P1 = Um.sysF s p) := fun h => by rw [← k5] at h; have := of_decide_eq_false h; rw [hP1, if_neg (by omega)]
  have HZC := hid hZC
  clear hZC
  have E8 : Hid (P1 = 0 ∧ ¬ x.length = s.length → P2 = 3) := fun h => by
    rw [hP2]; unfold Um.pathF
    rw [hP1] at h
    by_cases c : 20 < u.length
    · rw [if_pos c] at h; exact absurd h.1 (by decide)
    · rw [if_neg c] at h ⊢; rw [if_pos h.1, if_neg h.2]
  have E9 : Hid (¬ (P1 = 0 ∧ ¬ x.length = s.length) → P2 = P1) := fun h => by
    rw [hP2]; unfold Um.pathF
    rw [hP1] at h ⊢
    by_cases c : 20 < u.length
    · rw [if_pos c, if_pos c]
    · rw [if_neg c] at h
      rw [if_neg c, if_neg c]
      by_cases d : Um.sysF s p = 0
      · rw [if_pos d]
        by_cases g : x.length = s.length
        · rw [if_pos g, d]
        · exact absurd ⟨d, g⟩ h
      · rw [if_neg d]
  have HP2 := hid hP2
  clear hP1 hP2
  clear HO hf hp hs hx hu
  generalize Um.widesN s p b n = WN at *
  generalize Um.tubeAll s p b n = O at *
  have y0 := c0
  have y1 := c1
  go_enter Tryz.func3, Tryz.ntmps3
  go_upto_if 35 with (go_at_call 4; refine (HRR _ (hF.lf hf2) (hF.ls hp2) (hF.ls hb2)).out.mono ?_; rintro e wn ⟨r1, rfl, hw, hb⟩; replace hF := hF.step hb; clear hb; clear y0 y1; have y0 := (hF.below.cell (p := ⟨w.heap.size, 0, none⟩) h1).trans c0; have y1 := (hF.below.cell (p := ⟨w.heap.size, 1, none⟩) h1).trans c1; obtain ⟨s1, d1, rfl, -⟩ := (id hw); clear HRR)
  go_cut [11] from 27 to 35 (fun r w1 => Fr (w.alloc (.cells #[.slice a0 s.length cap0, .slice a1 p.length cap1] 25)) w1 [] ∧ ∃ a6 cap6, r = .slice a6 O.1.length cap6 ∧ Lb w1.heap.size w1 (.slice a6 O.1.length cap6) O.1)
  case first =>
    clear HRU HWI HSY HPA HO1 HO2 HOX EW HWL E6 E7 E8 E9 HP2
    by_cases h : O.2 = 0
    · have k : (O.2 != 0) = false := by simpa using h
      clear E3 h
      go_wp2
      go_meet
      case rel => exact ⟨hF, _, _, rfl, hw⟩
    · have e1 := E3.out h
      have k : (O.2 != 0) = true := by simpa using h
      clear E3 h
      go_wp2
      go_meet
      case rel => exact ⟨hF, none, 0, by rw [e1]; rfl, by rw [e1]; exact Lb.nil _ _⟩
  case rest =>
    clear hF y0 y1 hw
    obtain ⟨hF, a6, cap6, rfl, hw⟩ := hcut
    have y0 := (hF.below.cell (p := ⟨w.heap.size, 0, none⟩) h1).trans c0
    have y1 := (hF.below.cell (p := ⟨w.heap.size, 1, none⟩) h1).trans c1
    go_upto_region 5 with (go_at_call 5; refine (HRU _ (hF.lf hf2) (hF.ls hp2) (hF.ls hb2)).out.mono ?_; rintro e wn ⟨r2, rfl, hh, hb⟩; replace hw := hw.step hb; replace hF := hF.step hb; clear hb; clear y0 y1; have y0 := (hF.below.cell (p := ⟨w.heap.size, 0, none⟩) h1).trans c0; have y1 := (hF.below.cell (p := ⟨w.heap.size, 1, none⟩) h1).trans c1; obtain ⟨s2, d2, rfl, -⟩ := (id hh); clear HRU)
    go_upto_region 6 with (first | (go_at_call 6; refine (hid (same_any _ _ _ (hg.below (B := w.heap.size) (hBW.trans (hF.below.mono hBW.size)) hg.size))).out.mono ?_; rintro e wn ⟨rfl, hb⟩; replace hw := hw.step hb; replace hh := hh.step hb; replace hF := hF.step hb; clear hb; clear y0 y1; have y0 := (hF.below.cell (p := ⟨w.heap.size, 0, none⟩) h1).trans c0; have y1 := (hF.below.cell (p := ⟨w.heap.size, 1, none⟩) h1).trans c1) | (go_at_call 7; refine (hid (boxes_same O.1 _ _ _ hh hw HO1.out HO2.out)).out.mono ?_; rintro e wn ⟨rfl, hb⟩; replace hw := hw.step hb; replace hF := hF.step hb; clear hb; clear y0 y1; have y0 := (hF.below.cell (p := ⟨w.heap.size, 0, none⟩) h1).trans c0; have y1 := (hF.below.cell (p := ⟨w.heap.size, 1, none⟩) h1).trans c1; clear hh))
    have HFX := hid hF
    have HWX := hid hw
    clear hF y0 y1 hw
    obtain ⟨i0, hi0, hz0, hz1, hz2⟩ := info_parts info_int
    have hG := Fr.start wn
    go_wp2
    go_loopw [16, 17] (fun u i wq => ∃ k : Nat, k ≤ O.1.length ∧ i = .int .i64 k ∧ wq.ownsRow wn.heap.size 3 1 u k (((O.1.take k).map Um.widthOf).map (Value.int .i64)) ∧ Fr wn wq []) (fun _ i _ => O.1.length - (intOf i).toNat)
    case atStart => exact ⟨0, Nat.zero_le _, rfl, World.ownsRow_nil _ _ _ _, hG⟩
    case round =>
      clear hG
      obtain ⟨k, hk, rfl, hown, hG⟩ := hrel
      by_cases hkl : k < O.1.length
      · have hkk : (k : Int) < (O.1.length : Int) := by omega
        obtain ⟨b6, o6, c6, e6', -, m6, n6⟩ := HWX.out.open (by intro e; rw [e] at hkl; simp at hkl)
        cases e6'
        obtain ⟨x6, p6, e6⟩ := n6 k hkl
        have hB := ((HOX.out).2 k hkl).1
        have HE := hid (Um.wides_succ hkl)
        have l21 := HOX.out.1
        have y6 := (hG.below.cell (p := ⟨b6, o6 + k, none⟩) m6).trans p6
        have hk6 : b6 < wr.heap.size := Nat.lt_of_lt_of_le m6 hG.size
        replace e6 := (e6.keep hG.below).wide hG.size
        clear n6 HWI HSY HPA HWX EW HFX E3 E6 E7 E8 E9 HP2 HWL HZC k5
        generalize O.1[k]?.getD [] = bk at *
        have HWD := fun w h => hid (rWidest_any bk x6 w h hB)
        obtain ⟨b7, o7, c7, rfl, -, A6⟩ := e6.open (Um.box_ok.1 hB).1
        have hm : Um.wide bk < bk.length := wideK_le (Um.box_len hB).1 (Nat.le_refl _)
        have HSD := hid (Um.sd_some hm)
        have HV : Hid (Um.widthOf bk = (Um.sd bk (Um.wide bk)).2 - (Um.sd bk (Um.wide bk)).1) := rfl
        obtain ⟨f1, f2, f3, f4, -⟩ := side_b hB hm
        have hmm : (Um.wide bk : Int) < (bk.length : Int) := by omega
        generalize Um.widthOf bk = WO at *
        generalize Um.wide bk = m at *
        generalize Um.sd bk m = D at *
        obtain ⟨D0, D1⟩ := D
        simp only at f1 f2 f3 f4
        clear HOX p6 hB hm
        go_wp2
        obtain ⟨Inv, hInv⟩ : ∃ Inv : Array Bool → Act → World → Prop, ∀ listed aq W', Inv listed aq W' ↔ (∃ v57 v58 v59 v60 v61 v62 v63 v64 v65 v66 v67 v18 : Value, aq = { tmps := #[Value.agg #[Value.slice a0 s.length cap0, Value.slice a1 p.length cap1], Value.slice a2 b.length cap2, Value.int IntKind.i64 n, Value.slice a3 x.length cap3, Value.slice a4 u.length cap4, Value.pointer (some { block := w.heap.size, off := 0 }), undef, undef, undef, undef, Value.bool false, Value.slice (some { block := b6, off := o6 }) O.fst.length cap6, Value.int IntKind.i64 O.snd, Value.slice s2 O.fst.length d2, errV O.snd, Value.bool true, u16, Value.int IntKind.i64 ↑k, v18, undef, undef, undef, undef, undef, undef, undef, undef, u27, u28, u29, u30, u31, u32, u33, u34, u35, Value.tuple #[Value.slice s2 O.fst.length d2, errV O.snd], Value.agg #[Value.slice a0 s.length cap0, Value.slice a1 p.length cap1], Value.slice a2 b.length cap2, Value.int IntKind.i64 n, Value.tuple #[Value.slice s2 O.fst.length d2, errV O.snd], Value.slice s2 O.fst.length d2, errV O.snd, errV O.snd, Value.int IntKind.i64 O.snd, Value.bool true, Value.bool true, Value.slice s2 O.fst.length d2, Value.slice (some { block := b6, off := o6 }) O.fst.length cap6, Value.bool true, Value.bool true, Value.int IntKind.i64 ↑k, Value.slice (some { block := b6, off := o6 }) O.fst.length cap6, Value.int IntKind.i64 ↑O.fst.length, Value.bool true, u55, u56, v57, v58, v59, v60, v61, v62, v63, v64, v65, v66, v67, u68, u69, u70, u71, u72, u73, u74, u75, undef, undef, undef, undef, undef, undef, undef, undef, undef, undef, undef, undef, undef, undef, undef, undef, undef, undef, undef, undef, undef, undef, undef, undef, undef, undef, undef, undef, undef, undef, undef, undef, undef, undef, undef, undef, undef, undef, undef, undef, undef, undef, undef, undef, undef, undef, undef, undef, undef, undef, undef, undef, undef, undef, undef, undef, undef, undef, undef, undef, undef, undef, undef, undef, undef, undef, undef, undef, undef, undef, undef, undef, undef, undef, undef, undef, undef, undef, undef, undef, undef, undef, undef, undef], defers := [] } ∧ Below (wr).heap.size (wr) W' ∧ (listed.getD 0 false = true → v57 = Value.slice (some { block := b6, off := o6 }) O.fst.length cap6) ∧ (listed.getD 1 false = true → v58 = Value.int IntKind.i64 ↑k) ∧ (listed.getD 2 false = true → v59 = .pointer (some ⟨b6, o6 + k, none⟩)) ∧ (listed.getD 3 false = true → v60 = (.slice (some ⟨b7, o7, none⟩) bk.length c7)) ∧ (listed.getD 4 false = true → v61 = Value.slice (some { block := b6, off := o6 }) O.fst.length cap6) ∧ (listed.getD 5 false = true → v62 = Value.int IntKind.i64 ↑k) ∧ (listed.getD 6 false = true → v63 = .pointer (some ⟨b6, o6 + k, none⟩)) ∧ (listed.getD 7 false = true → v64 = (.slice (some ⟨b7, o7, none⟩) bk.length c7)) ∧ (listed.getD 8 false = true → v65 = (.int .i64 (m : Nat))) ∧ (listed.getD 9 false = true → v66 = .pointer (some ⟨b7, o7 + m * 2, none⟩)) ∧ (listed.getD 10 false = true → v67 = (.agg #[.int .i64 D0, .int .i64 D1])) ∧ (listed.getD 11 false = true → ∃ (bn : Nat) (cn dn : Int), v18 = .pointer (some ⟨bn, 0, none⟩) ∧ (wr).heap.size ≤ bn ∧ Sp W' bn cn dn ∧ (listed.getD 12 false = true → cn = D0 ∧ dn = D1)) ∧ (listed.getD 12 false = true → listed.getD 11 false = true)) := ⟨_, fun _ _ _ => Iff.rfl⟩
        have HI := hid hInv
        clear hInv
        refine Free.region hmx (by kernel_rfl) Inv ?s1 ?s2 ?s3
        case s1 =>
          exact (HI.out _ _ _).2 ⟨u57, u58, u59, u60, u61, u62, u63, u64, u65, u66, u67, u18, rfl, (Below.refl _ _).drew, Free.not_yet, Free.not_yet, Free.not_yet, Free.not_yet, Free.not_yet, Free.not_yet, Free.not_yet, Free.not_yet, Free.not_yet, Free.not_yet, Free.not_yet, Free.not_yet, Free.not_yet⟩
        case s2 =>
          intro i listed aq W1 hix hne hnl hsz hv
          obtain ⟨v57, v58, v59, v60, v61, v62, v63, v64, v65, v66, v67, v18, rfl, hW, l0, l1, l2, l3, l4, l5, l6, l7, l8, l9, l10, ln, lp⟩ := (HI.out _ _ _).1 hv
          clear hv
          replace hix : i < 13 := hix
          replace hsz : listed.size = 13 := hsz
          rcases (by omega : i = 0 ∨ i = 1 ∨ i = 2 ∨ i = 3 ∨ i = 4 ∨ i = 5 ∨ i = 6 ∨ i = 7 ∨ i = 8 ∨ i = 9 ∨ i = 10 ∨ i = 11 ∨ i = 12) with rfl | rfl | rfl | rfl | rfl | rfl | rfl | rfl | rfl | rfl | rfl | rfl | rfl
          · refine Free.op rfl rfl (fun K hK => ?_)
            go_simp
            exact hK _ _ ((HI.out _ _ _).2 ⟨_, v58, v59, v60, v61, v62, v63, v64, v65, v66, v67, v18, rfl, hW, fun _ => rfl, Free.of_set (by decide) l1, Free.of_set (by decide) l2, Free.of_set (by decide) l3, Free.of_set (by decide) l4, Free.of_set (by decide) l5, Free.of_set (by decide) l6, Free.of_set (by decide) l7, Free.of_set (by decide) l8, Free.of_set (by decide) l9, Free.of_set (by decide) l10, fun e => by obtain ⟨bn, cn, dn, q1, q2, q3, q4⟩ := ln (Free.back (by decide) e); exact ⟨bn, cn, dn, q1, q2, q3, fun e2 => q4 (Free.back (by decide) e2)⟩, fun e => Free.fore (by decide) (lp (Free.back (by decide) e))⟩)
          · refine Free.op rfl rfl (fun K hK => ?_)
            go_simp
            exact hK _ _ ((HI.out _ _ _).2 ⟨v57, _, v59, v60, v61, v62, v63, v64, v65, v66, v67, v18, rfl, hW, Free.of_set (by decide) l0, fun _ => rfl, Free.of_set (by decide) l2, Free.of_set (by decide) l3, Free.of_set (by decide) l4, Free.of_set (by decide) l5, Free.of_set (by decide) l6, Free.of_set (by decide) l7, Free.of_set (by decide) l8, Free.of_set (by decide) l9, Free.of_set (by decide) l10, fun e => by obtain ⟨bn, cn, dn, q1, q2, q3, q4⟩ := ln (Free.back (by decide) e); exact ⟨bn, cn, dn, q1, q2, q3, fun e2 => q4 (Free.back (by decide) e2)⟩, fun e => Free.fore (by decide) (lp (Free.back (by decide) e))⟩)
          · refine Free.op rfl rfl (fun K hK => ?_)
            obtain rfl := l0 (hne 0 (by kernel_rfl))
            obtain rfl := l1 (hne 1 (by kernel_rfl))
            go_simp
            exact hK _ _ ((HI.out _ _ _).2 ⟨_, _, _, v60, v61, v62, v63, v64, v65, v66, v67, v18, rfl, hW, fun _ => rfl, fun _ => rfl, fun _ => rfl, Free.of_set (by decide) l3, Free.of_set (by decide) l4, Free.of_set (by decide) l5, Free.of_set (by decide) l6, Free.of_set (by decide) l7, Free.of_set (by decide) l8, Free.of_set (by decide) l9, Free.of_set (by decide) l10, fun e => by obtain ⟨bn, cn, dn, q1, q2, q3, q4⟩ := ln (Free.back (by decide) e); exact ⟨bn, cn, dn, q1, q2, q3, fun e2 => q4 (Free.back (by decide) e2)⟩, fun e => Free.fore (by decide) (lp (Free.back (by decide) e))⟩)
          · have z := (hW.cell (p := ⟨b6, o6 + k, none⟩) hk6).trans y6
            refine Free.op rfl rfl (fun K hK => ?_)
            obtain rfl := l2 (hne 2 (by kernel_rfl))
            go_simp
            exact hK _ _ ((HI.out _ _ _).2 ⟨v57, v58, _, _, v61, v62, v63, v64, v65, v66, v67, v18, rfl, hW, Free.of_set (by decide) l0, Free.of_set (by decide) l1, fun _ => rfl, fun _ => rfl, Free.of_set (by decide) l4, Free.of_set (by decide) l5, Free.of_set (by decide) l6, Free.of_set (by decide) l7, Free.of_set (by decide) l8, Free.of_set (by decide) l9, Free.of_set (by decide) l10, fun e => by obtain ⟨bn, cn, dn, q1, q2, q3, q4⟩ := ln (Free.back (by decide) e); exact ⟨bn, cn, dn, q1, q2, q3, fun e2 => q4 (Free.back (by decide) e2)⟩, fun e => Free.fore (by decide) (lp (Free.back (by decide) e))⟩)
          · refine Free.op rfl rfl (fun K hK => ?_)
            go_simp
            exact hK _ _ ((HI.out _ _ _).2 ⟨v57, v58, v59, v60, _, v62, v63, v64, v65, v66, v67, v18, rfl, hW, Free.of_set (by decide) l0, Free.of_set (by decide) l1, Free.of_set (by decide) l2, Free.of_set (by decide) l3, fun _ => rfl, Free.of_set (by decide) l5, Free.of_set (by decide) l6, Free.of_set (by decide) l7, Free.of_set (by decide) l8, Free.of_set (by decide) l9, Free.of_set (by decide) l10, fun e => by obtain ⟨bn, cn, dn, q1, q2, q3, q4⟩ := ln (Free.back (by decide) e); exact ⟨bn, cn, dn, q1, q2, q3, fun e2 => q4 (Free.back (by decide) e2)⟩, fun e => Free.fore (by decide) (lp (Free.back (by decide) e))⟩)
          · refine Free.op rfl rfl (fun K hK => ?_)
            go_simp
            exact hK _ _ ((HI.out _ _ _).2 ⟨v57, v58, v59, v60, v61, _, v63, v64, v65, v66, v67, v18, rfl, hW, Free.of_set (by decide) l0, Free.of_set (by decide) l1, Free.of_set (by decide) l2, Free.of_set (by decide) l3, Free.of_set (by decide) l4, fun _ => rfl, Free.of_set (by decide) l6, Free.of_set (by decide) l7, Free.of_set (by decide) l8, Free.of_set (by decide) l9, Free.of_set (by decide) l10, fun e => by obtain ⟨bn, cn, dn, q1, q2, q3, q4⟩ := ln (Free.back (by decide) e); exact ⟨bn, cn, dn, q1, q2, q3, fun e2 => q4 (Free.back (by decide) e2)⟩, fun e => Free.fore (by decide) (lp (Free.back (by decide) e))⟩)
          · refine Free.op rfl rfl (fun K hK => ?_)
            obtain rfl := l4 (hne 4 (by kernel_rfl))
            obtain rfl := l5 (hne 5 (by kernel_rfl))
            go_simp
            exact hK _ _ ((HI.out _ _ _).2 ⟨v57, v58, v59, v60, _, _, _, v64, v65, v66, v67, v18, rfl, hW, Free.of_set (by decide) l0, Free.of_set (by decide) l1, Free.of_set (by decide) l2, Free.of_set (by decide) l3, fun _ => rfl, fun _ => rfl, fun _ => rfl, Free.of_set (by decide) l7, Free.of_set (by decide) l8, Free.of_set (by decide) l9, Free.of_set (by decide) l10, fun e => by obtain ⟨bn, cn, dn, q1, q2, q3, q4⟩ := ln (Free.back (by decide) e); exact ⟨bn, cn, dn, q1, q2, q3, fun e2 => q4 (Free.back (by decide) e2)⟩, fun e => Free.fore (by decide) (lp (Free.back (by decide) e))⟩)
          · have z := (hW.cell (p := ⟨b6, o6 + k, none⟩) hk6).trans y6
            refine Free.op rfl rfl (fun K hK => ?_)
            obtain rfl := l6 (hne 6 (by kernel_rfl))
            go_simp
            exact hK _ _ ((HI.out _ _ _).2 ⟨v57, v58, v59, v60, v61, v62, _, _, v65, v66, v67, v18, rfl, hW, Free.of_set (by decide) l0, Free.of_set (by decide) l1, Free.of_set (by decide) l2, Free.of_set (by decide) l3, Free.of_set (by decide) l4, Free.of_set (by decide) l5, fun _ => rfl, fun _ => rfl, Free.of_set (by decide) l8, Free.of_set (by decide) l9, Free.of_set (by decide) l10, fun e => by obtain ⟨bn, cn, dn, q1, q2, q3, q4⟩ := ln (Free.back (by decide) e); exact ⟨bn, cn, dn, q1, q2, q3, fun e2 => q4 (Free.back (by decide) e2)⟩, fun e => Free.fore (by decide) (lp (Free.back (by decide) e))⟩)
          · refine Free.op rfl rfl (fun K hK => ?_)
            obtain rfl := l7 (hne 7 (by kernel_rfl))
            go_wp2_with (go_at_call 8; refine (HWD _ (e6.step hW)).out.mono ?_; rintro e W3 ⟨rfl, hb⟩)
            exact (HI.out _ _ _).2 ⟨v57, v58, v59, v60, v61, v62, v63, _, _, v66, v67, v18, rfl, hW.trans (hb.mono hW.size), Free.of_set (by decide) l0, Free.of_set (by decide) l1, Free.of_set (by decide) l2, Free.of_set (by decide) l3, Free.of_set (by decide) l4, Free.of_set (by decide) l5, Free.of_set (by decide) l6, fun _ => rfl, fun _ => rfl, Free.of_set (by decide) l9, Free.of_set (by decide) l10, fun e => by obtain ⟨bn, cn, dn, q1, q2, q3, q4⟩ := ln (Free.back (by decide) e); exact ⟨bn, cn, dn, q1, q2, (q3.step hb), fun e2 => q4 (Free.back (by decide) e2)⟩, fun e => Free.fore (by decide) (lp (Free.back (by decide) e))⟩
          · refine Free.op rfl rfl (fun K hK => ?_)
            obtain rfl := l3 (hne 3 (by kernel_rfl))
            obtain rfl := l8 (hne 8 (by kernel_rfl))
            go_simp
            exact hK _ _ ((HI.out _ _ _).2 ⟨v57, v58, v59, _, v61, v62, v63, v64, _, _, v67, v18, rfl, hW, Free.of_set (by decide) l0, Free.of_set (by decide) l1, Free.of_set (by decide) l2, fun _ => rfl, Free.of_set (by decide) l4, Free.of_set (by decide) l5, Free.of_set (by decide) l6, Free.of_set (by decide) l7, fun _ => rfl, fun _ => rfl, Free.of_set (by decide) l10, fun e => by obtain ⟨bn, cn, dn, q1, q2, q3, q4⟩ := ln (Free.back (by decide) e); exact ⟨bn, cn, dn, q1, q2, q3, fun e2 => q4 (Free.back (by decide) e2)⟩, fun e => Free.fore (by decide) (lp (Free.back (by decide) e))⟩)
          · have z0 := (A6.step hW).lo m HSD.out rfl
            have z1 := (A6.step hW).hi m HSD.out rfl
            refine Free.op rfl rfl (fun K hK => ?_)
            obtain rfl := l9 (hne 9 (by kernel_rfl))
            go_simp
            exact hK _ _ ((HI.out _ _ _).2 ⟨v57, v58, v59, v60, v61, v62, v63, v64, v65, _, _, v18, rfl, hW, Free.of_set (by decide) l0, Free.of_set (by decide) l1, Free.of_set (by decide) l2, Free.of_set (by decide) l3, Free.of_set (by decide) l4, Free.of_set (by decide) l5, Free.of_set (by decide) l6, Free.of_set (by decide) l7, Free.of_set (by decide) l8, fun _ => rfl, fun _ => rfl, fun e => by obtain ⟨bn, cn, dn, q1, q2, q3, q4⟩ := ln (Free.back (by decide) e); exact ⟨bn, cn, dn, q1, q2, q3, fun e2 => q4 (Free.back (by decide) e2)⟩, fun e => Free.fore (by decide) (lp (Free.back (by decide) e))⟩)
          · have hs : listed.getD 12 false = false := by
              cases e : listed.getD 12 false
              · rfl
              · rw [Free.off hnl] at lp; cases lp e
            refine Free.op rfl rfl (fun K hK => ?_)
            go_simp
            exact hK _ _ ((HI.out _ _ _).2 ⟨v57, v58, v59, v60, v61, v62, v63, v64, v65, v66, v67, _, rfl, hW.alloc hW.size _, Free.of_set (by decide) l0, Free.of_set (by decide) l1, Free.of_set (by decide) l2, Free.of_set (by decide) l3, Free.of_set (by decide) l4, Free.of_set (by decide) l5, Free.of_set (by decide) l6, Free.of_set (by decide) l7, Free.of_set (by decide) l8, Free.of_set (by decide) l9, Free.of_set (by decide) l10, fun _ => ⟨_, _, _, rfl, hW.size, Sp.new _ _ _, fun e => by rw [Free.set_other (by decide), hs] at e; cases e⟩, fun e => by rw [Free.set_other (by decide), hs] at e; cases e⟩)
          · have N := hid (hne 11 (by kernel_rfl))
            obtain ⟨bn, cn, dn, q1, q2, q3, q4⟩ := ln N.out
            subst q1
            have y1 := q3.fl
            have y2 := q3.fh
            have y3 := q3.lo
            have y4 := q3.hi
            refine Free.op rfl rfl (fun K hK => ?_)
            obtain rfl := l10 (hne 10 (by kernel_rfl))
            go_simp
            exact hK _ _ ((HI.out _ _ _).2 ⟨v57, v58, v59, v60, v61, v62, v63, v64, v65, v66, _, _, rfl, (hW.setCell q2 _).setCell q2 _, Free.of_set (by decide) l0, Free.of_set (by decide) l1, Free.of_set (by decide) l2, Free.of_set (by decide) l3, Free.of_set (by decide) l4, Free.of_set (by decide) l5, Free.of_set (by decide) l6, Free.of_set (by decide) l7, Free.of_set (by decide) l8, Free.of_set (by decide) l9, fun _ => rfl, fun _ => ⟨_, _, _, rfl, q2, q3.set _ _, fun _ => ⟨rfl, rfl⟩⟩, fun _ => Free.fore (by decide) N.out⟩)
        case s3 =>
          intro listed aq W1 hall hsz hv
          obtain ⟨v57, v58, v59, v60, v61, v62, v63, v64, v65, v66, v67, v18, rfl, hW, l0, l1, l2, l3, l4, l5, l6, l7, l8, l9, l10, ln, lp⟩ := (HI.out _ _ _).1 hv
          clear hv HI
          obtain ⟨bn, cn, dn, rfl, hbn, hSn, q4⟩ := ln (Free.listed_of hall hsz 11 (by decide))
          obtain ⟨rfl, rfl⟩ := q4 (Free.listed_of hall hsz 12 (by decide))
          clear ln lp
          obtain rfl := l0 (Free.listed_of hall hsz 0 (by decide))
          obtain rfl := l1 (Free.listed_of hall hsz 1 (by decide))
          obtain rfl := l2 (Free.listed_of hall hsz 2 (by decide))
          obtain rfl := l3 (Free.listed_of hall hsz 3 (by decide))
          obtain rfl := l4 (Free.listed_of hall hsz 4 (by decide))
          obtain rfl := l5 (Free.listed_of hall hsz 5 (by decide))
          obtain rfl := l6 (Free.listed_of hall hsz 6 (by decide))
          obtain rfl := l7 (Free.listed_of hall hsz 7 (by decide))
          obtain rfl := l8 (Free.listed_of hall hsz 8 (by decide))
          obtain rfl := l9 (Free.listed_of hall hsz 9 (by decide))
          obtain rfl := l10 (Free.listed_of hall hsz 10 (by decide))
          clear hall hsz
          replace hG := hG.step hW
          replace hown := owns_keep hown hW
          have hsz := hG.size
          have z0 := hSn.lo
          have z1 := hSn.hi
          clear hW y6 e6 A6 HWD HSD hSn
          go_wp2_with (at_builtin; refine wpList_append_own _ rfl _ _ 26 rfl wn.heap.size 3 i0 (.int .i64 0) 1 8 Tryz.underlying26 hi0 hz0 hz1 hz2 rfl (by decide) _ _ _ rfl (hown.alloc _) _ 1 1 [.int .i64 (dn - cn)] rfl rfl (cell_one_new _ _ _) (by simp [Value.oneCell']) (by unfold maxLen; omega) (by omega) (by simp at hsz ⊢; omega) ?_; intro v' w1 hown' hgrow _)
          have HN := hid hown'
          have hb2 := (((Below.refl wn.heap.size _).alloc hsz (.cells #[.int .i64 (dn - cn)] 3))).grown hgrow (by simp at hsz ⊢; omega) (fun j e => own_from hown j e)
          have hF3 : Fr wn w1 [] := ⟨hG.below.trans hb2, by simp, List.Pairwise.nil⟩
          refine ⟨⟨k + 1, by omega, by simp, ?_, hF3⟩, by simp [intOf]; omega⟩
          rw [HE.out, List.map_append, show WO = dn - cn from HV.out]
          exact HN.out

      · obtain rfl : k = O.1.length := by omega
        have HLI := hid (li_owns (q := O.1.map Um.widthOf) (by rw [List.length_map]; rw [List.take_length] at hown; exact hown))
        rw [← EW.out] at HLI
        have hF : Fr (w.alloc (.cells #[.slice a0 s.length cap0, .slice a1 p.length cap1] 25)) wr [] := ⟨HFX.out.below.trans (hG.below.mono HFX.out.size), by simp, List.Pairwise.nil⟩
        have hw := HLI.out
        clear HLI HOX HO1 HO2 E3 EW HFX HWX hown hG
        have y0 := (hF.below.cell (p := ⟨w.heap.size, 0, none⟩) h1).trans c0
        have y1 := (hF.below.cell (p := ⟨w.heap.size, 1, none⟩) h1).trans c1
        go_upto_region 13 with (go_at_call 9; refine (HWI _ (hF.lf hf2) (hF.ls hp2) (hF.ls hb2)).out.mono ?_; rintro e wn ⟨r3, rfl, hh, hb⟩; replace hw := (hw.keep hb).wide hb.size; replace hF := hF.step hb; clear hb; clear y0 y1; have y0 := (hF.below.cell (p := ⟨w.heap.size, 0, none⟩) h1).trans c0; have y1 := (hF.below.cell (p := ⟨w.heap.size, 1, none⟩) h1).trans c1; obtain ⟨s3, d3, rfl, -⟩ := (id hh); clear HWI)
        go_upto_region 14 with (first | (go_at_call 6; refine (hid (same_any _ _ _ (hg.below (B := w.heap.size) (hBW.trans (hF.below.mono hBW.size)) hg.size))).out.mono ?_; rintro e wn ⟨rfl, hb⟩; replace hw := (hw.keep hb).wide hb.size; replace hh := (hh.keep hb).wide hb.size; replace hF := hF.step hb; clear hb; clear y0 y1; have y0 := (hF.below.cell (p := ⟨w.heap.size, 0, none⟩) h1).trans c0; have y1 := (hF.below.cell (p := ⟨w.heap.size, 1, none⟩) h1).trans c1) | (go_at_call 10; refine (hid (rInts_all WN _ _ _ hh hw HWL.out)).out.mono ?_; rintro e wn ⟨rfl, hb⟩; replace hF := hF.step hb; clear hb; clear y0 y1; have y0 := (hF.below.cell (p := ⟨w.heap.size, 0, none⟩) h1).trans c0; have y1 := (hF.below.cell (p := ⟨w.heap.size, 1, none⟩) h1).trans c1; clear hh hw))
        go_upto_if 93 with fail
        go_cut [12] from 36 to 93 (fun e w1 => e = .int .i64 P1 ∧ Fr (w.alloc (.cells #[.slice a0 s.length cap0, .slice a1 p.length cap1] 25)) w1 [])
        case first =>
          clear HPA HWL E8 E9 HZC HP2
          cases ZB
          · have e1 := E7.out rfl
            clear E6 E7 k5
            subst e1
            go_wp2_with (go_at_call 11; refine (HSY _ (hF.lf hf2) (hF.ls hp2)).out.mono ?_; rintro e wn ⟨rfl, hb⟩; replace hF := hF.step hb; clear hb; clear y0 y1; have y0 := (hF.below.cell (p := ⟨w.heap.size, 0, none⟩) h1).trans c0; have y1 := (hF.below.cell (p := ⟨w.heap.size, 1, none⟩) h1).trans c1; clear HSY)
            go_meet
            case rel => exact ⟨rfl, hF⟩
          · have e1 := E6.out rfl
            clear E6 E7 HSY k5
            subst e1
            go_wp2
            go_meet
            case rel => exact ⟨rfl, hF⟩
        case rest =>
          clear hF y0 y1 HSY E6 E7 k5
          obtain ⟨rfl, hF⟩ := hcut
          have y0 := (hF.below.cell (p := ⟨w.heap.size, 0, none⟩) h1).trans c0
          have y1 := (hF.below.cell (p := ⟨w.heap.size, 1, none⟩) h1).trans c1
          go_upto_region 18 with fail
          go_cut [105] from 94 to 104 (fun v w1 => v = .bool ZC ∧ Fr (w.alloc (.cells #[.slice a0 s.length cap0, .slice a1 p.length cap1] 25)) w1 [])
          case first =>
            clear HPA HWL E8 E9 HP2
            by_cases h : P1 = 0
            · have k1 : (P1 == 0) = true := by simpa using h
              by_cases h2 : x.length = s.length
              · have k2 : ((x.length : Int) != (s.length : Int)) = false := by simp [h2]
                have e1 : ZC = false := by rw [HZC.out]; exact decide_eq_false fun c => c.2 h2
                clear HZC h h2
                subst e1
                go_wp2
                go_meet
                case rel => exact ⟨rfl, hF⟩
              · have k2 : ((x.length : Int) != (s.length : Int)) = true := by simp; omega
                have e1 : ZC = true := by rw [HZC.out]; exact decide_eq_true ⟨h, h2⟩
                clear HZC h h2
                subst e1
                go_wp2
                go_meet
                case rel => exact ⟨rfl, hF⟩
            · have k1 : (P1 == 0) = false := by simpa using h
              have e1 : ZC = false := by rw [HZC.out]; exact decide_eq_false fun c => h c.1
              clear HZC h
              subst e1
              go_wp2
              go_meet
              case rel => exact ⟨rfl, hF⟩
          case rest =>
           clear hF y0 y1
           obtain ⟨rfl, hF⟩ := hcut
           have y0 := (hF.below.cell (p := ⟨w.heap.size, 0, none⟩) h1).trans c0
           have y1 := (hF.below.cell (p := ⟨w.heap.size, 1, none⟩) h1).trans c1
           go_upto_if 105 with fail
           go_cut [12] from 94 to 105 (fun e w1 => e = .int .i64 P2 ∧ Fr (w.alloc (.cells #[.slice a0 s.length cap0, .slice a1 p.length cap1] 25)) w1 [])
           case first =>
            clear HPA HWL
            cases ZC
            · have e1 := E9.out fun c => by have := HZC.out; rw [decide_eq_true c] at this; cases this
              clear E8 E9 HZC
              subst e1
              go_wp2
              go_meet
              case rel => exact ⟨rfl, hF⟩
            · have e1 := E8.out (of_decide_eq_true HZC.out.symm)
              clear E8 E9 HZC
              subst e1
              go_wp2
              go_meet
              case rel => exact ⟨rfl, hF⟩
           case rest =>
            clear HZC
            clear hF y0 y1 E8 E9
            obtain ⟨rfl, hF⟩ := hcut
            have y0 := (hF.below.cell (p := ⟨w.heap.size, 0, none⟩) h1).trans c0
            have y1 := (hF.below.cell (p := ⟨w.heap.size, 1, none⟩) h1).trans c1
            clear HPA HWL
            by_cases hp2 : P2 = 0
            · have hpf : Um.pathF s p x u = 0 := HP2.out.symm.trans hp2
              obtain ⟨hu20, hsy, hxl⟩ := Um.pathF_ok.1 hpf
              have hx0 : x ≠ [] := by rintro rfl; have := (sys_len hsy).1; simp at hxl; omega
              have HXL := hid hxl
              have HSL := hid (sys_len hsy).1
              have HPF := hid hpf
              have HR0 := hid (row_list (E := 26) (w := wc) (base := (w.alloc (.cells #[.slice a0 s.length cap0, .slice a1 p.length cap1] 25)).heap.size) rfl hF.size (hF.li hx2) hx0)
              have HF0 := hid (hF.alloc (.cells #[.slice a3 x.length cap3] 26))
              obtain ⟨j0, hj0, hy0, hy1, hy2⟩ := info_parts info_lists
              subst hp2
              clear hF y0 y1 hxl hpf hsy HP2 hx0
              go_wp2
              go_loopw [12, 21, 22] (fun e v i wq => ∃ k : Nat, k ≤ u.length ∧ i = .int .i64 k ∧ e = .int .i64 (Um.pathN s p x u k).2 ∧ ((Um.pathN s p x u k).2 = 0 → RowL (w.alloc (.cells #[.slice a0 s.length cap0, .slice a1 p.length cap1] 25)).heap.size 26 wq v (Um.paths s p x u (k + 1))) ∧ Fr (w.alloc (.cells #[.slice a0 s.length cap0, .slice a1 p.length cap1] 25)) wq []) (fun _ _ i _ => u.length - (intOf i).toNat)
              case atStart => exact ⟨0, Nat.zero_le _, rfl, rfl, fun _ => HR0.out, HF0.out⟩
              case round =>
                clear HR0 HF0
                obtain ⟨k, hk, rfl, rfl, hrow, hF⟩ := hrel
                have y0 := (hF.below.cell (p := ⟨w.heap.size, 0, none⟩) h1).trans c0
                have y1 := (hF.below.cell (p := ⟨w.heap.size, 1, none⟩) h1).trans c1
                by_cases hz : (Um.pathN s p x u k).2 = 0
                · by_cases hkl : k < u.length
                  · have hkk : decide ((k : Int) < (u.length : Int)) = true := decide_eq_true (by omega)
                    have hk1 : (k : Int) < (k : Int) + 1 := by omega
                    have hku : (k : Int) < (u.length : Int) := by omega
                    have kz : ((Um.pathN s p x u k).2 == 0) = true := by simpa using hz
                    have hR := hrow hz
                    obtain ⟨b6, o6, c6, e6', -, m6, n6⟩ := hR.ll.open (by intro e; have := Um.paths_length s p x u (k + 1); rw [e] at this; simp at this)
                    rw [Um.paths_length] at e6' n6
                    subst e6'
                    obtain ⟨x6, y6, e6⟩ := n6 k (by omega)
                    rw [Um.paths_get (by omega)] at e6
                    obtain ⟨b7, o7, c7, e7', -, m7, n7⟩ := (hF.ll hu2).open (by intro e; rw [e] at hkl; simp at hkl)
                    cases e7'
                    obtain ⟨x7, y7, e7⟩ := n7 k hkl
                    have hk6 := m6
                    have hk7 := m7
                    have hXl : w.heap.size < wr.heap.size := Nat.lt_of_lt_of_le h1 hF.size
                    have hLF := hF.lf hf2
                    have hLP := hF.ls hp2
                    have HMV := fun w h1 h2 h3 h4 => hid (rMove_new s (.slice a0 s.length cap0) p (.slice a1 p.length cap1) (Um.pathN s p x u k).1 x6 (u[k]?.getD []) x7 w h1 h2 h3 h4)
                    have HT : Hid (Um.pathN s p x u (k + 1) = Um.movAll s p (Um.pathN s p x u k).1 (u[k]?.getD [])) := by rw [Um.path_succ, if_pos hz]; exact hid rfl
                    have HNE : Hid ((Um.movAll s p (Um.pathN s p x u k).1 (u[k]?.getD [])).2 = 0 → (Um.movAll s p (Um.pathN s p x u k).1 (u[k]?.getD [])).1 ≠ []) := hid fun h e => by
                      have := Um.mov_len h
                      rw [e] at this
                      have := HSL.out
                      simp at *; omega
                    have HNA : Hid (∀ j, j < k + 1 → (Um.pathN s p x u j).1 ≠ []) := hid fun j hj e => by
                      have := Um.path_len HXL.out (Um.path_down hz (j := j) (by omega))
                      rw [e] at this
                      have := HSL.out
                      simp at *; omega
                    clear n6 n7 hrow hz HXL HSL HPF m6 m7
                    generalize Um.movAll s p (Um.pathN s p x u k).1 (u[k]?.getD []) = Z at *
                    go_wp2
                    obtain ⟨Inv, hInv⟩ : ∃ Inv : Array Bool → Act → World → Prop, ∀ listed aq W', Inv listed aq W' ↔ (∃ rr v119 v120 v121 v122 v123 v124 v125 v126 v127 v128 v118 v129 v130 v23 v24 : Value, aq = { tmps := #[Value.agg #[Value.slice a0 s.length cap0, Value.slice a1 p.length cap1], Value.slice a2 b.length cap2, Value.int IntKind.i64 n, Value.slice a3 x.length cap3, Value.slice (some { block := b7, off := o7 }) u.length cap4, Value.pointer (some { block := w.heap.size, off := 0 }), undef, undef, undef, undef, Value.bool false, Value.slice a6 O.fst.length cap6, Value.int IntKind.i64 (Um.pathN s p x u k).snd, Value.slice s2 O.fst.length d2, errV O.snd, Value.bool true, u16, Value.int IntKind.i64 ↑O.fst.length, u18, Value.slice s3 WN.length d3, Value.bool true, Value.slice (some { block := b6, off := o6 }) (k + 1) c6, Value.int IntKind.i64 ↑k, v23, v24, undef, undef, u27, u28, u29, u30, u31, u32, u33, u34, u35, u36, u37, u38, u39, u40, u41, u42, u43, u44, u45, u46, u47, u48, u49, u50, u51, u52, u53, u54, u55, u56, u57, u58, u59, u60, u61, u62, u63, u64, u65, u66, u67, u68, u69, u70, u71, u72, u73, u74, u75, u76, u77, u78, u79, u80, u81, u82, u83, u84, u85, u86, u87, u88, u89, u90, u91, u92, u93, u94, u95, u96, u97, u98, u99, u100, u101, u102, u103, u104, u105, Value.slice a3 x.length cap3, Value.slice (some { block := wc.heap.size, off := 0 }) 1 1, Value.int IntKind.i64 ↑k, Value.slice (some { block := b7, off := o7 }) u.length cap4, Value.int IntKind.i64 ↑u.length, Value.bool true, Value.bool true, Value.int IntKind.i64 (Um.pathN s p x u k).snd, Value.bool true, Value.bool true, u116, u117, v118, v119, v120, v121, v122, v123, v124, v125, v126, v127, v128, v129, v130, u131, u132, u133, u134, u135, undef, undef, undef, undef, undef, undef, undef, undef, undef, undef, undef, undef, undef, undef, undef, undef, undef, undef, undef, undef, undef, undef, undef, undef], defers := [] } ∧ Below (wr).heap.size (wr) W' ∧ (listed.getD 0 false = true → v119 = (.agg #[.slice a0 s.length cap0, .slice a1 p.length cap1])) ∧ (listed.getD 1 false = true → v120 = Value.slice (some { block := b6, off := o6 }) (k + 1) c6) ∧ (listed.getD 2 false = true → v121 = Value.int IntKind.i64 ↑k) ∧ (listed.getD 3 false = true → v122 = .pointer (some ⟨b6, o6 + k, none⟩)) ∧ (listed.getD 4 false = true → v123 = x6) ∧ (listed.getD 5 false = true → v124 = Value.slice (some { block := b7, off := o7 }) u.length cap4) ∧ (listed.getD 6 false = true → v125 = Value.int IntKind.i64 ↑k) ∧ (listed.getD 7 false = true → v126 = .pointer (some ⟨b7, o7 + k, none⟩)) ∧ (listed.getD 8 false = true → v127 = x7) ∧ (listed.getD 9 false = true → v128 = (.tuple #[rr, .int .i64 Z.2])) ∧ (listed.getD 10 false = true → v118 = (.tuple #[rr, .int .i64 Z.2])) ∧ (listed.getD 11 false = true → v129 = rr) ∧ (listed.getD 12 false = true → v130 = .int .i64 Z.2) ∧ (listed.getD 13 false = true → v23 = rr) ∧ (listed.getD 14 false = true → v24 = .int .i64 Z.2) ∧ (listed.getD 9 false = true → Li W'.heap.size W' rr Z.1 ∧ ∀ g, rr.ownBlock = some g → wr.heap.size ≤ g) ∧ (listed.getD 10 false = true → listed.getD 9 false = true) ∧ (listed.getD 11 false = true → listed.getD 9 false = true) ∧ (listed.getD 12 false = true → listed.getD 9 false = true) ∧ (listed.getD 13 false = true → listed.getD 9 false = true) ∧ (listed.getD 14 false = true → listed.getD 9 false = true)) := ⟨_, fun _ _ _ => Iff.rfl⟩
                    have HI := hid hInv
                    clear hInv
                    refine Free.region hmx (by kernel_rfl) Inv ?s1 ?s2 ?s3
                    case s1 =>
                      exact (HI.out _ _ _).2 ⟨undef, u119, u120, u121, u122, u123, u124, u125, u126, u127, u128, u118, u129, u130, u23, u24, rfl, (Below.refl _ _).drew, Free.not_yet, Free.not_yet, Free.not_yet, Free.not_yet, Free.not_yet, Free.not_yet, Free.not_yet, Free.not_yet, Free.not_yet, Free.not_yet, Free.not_yet, Free.not_yet, Free.not_yet, Free.not_yet, Free.not_yet, Free.not_yet, Free.not_yet, Free.not_yet, Free.not_yet, Free.not_yet, Free.not_yet⟩
                    case s2 =>
                      intro i listed aq W1 hix hne hnl hsz hv
                      obtain ⟨rr, v119, v120, v121, v122, v123, v124, v125, v126, v127, v128, v118, v129, v130, v23, v24, rfl, hW, l0, l1, l2, l3, l4, l5, l6, l7, l8, l9, l10, l11, l12, l13, l14, lq, ld10, ld11, ld12, ld13, ld14⟩ := (HI.out _ _ _).1 hv
                      clear hv
                      replace hix : i < 15 := hix
                      replace hsz : listed.size = 15 := hsz
                      rcases (by omega : i = 0 ∨ i = 1 ∨ i = 2 ∨ i = 3 ∨ i = 4 ∨ i = 5 ∨ i = 6 ∨ i = 7 ∨ i = 8 ∨ i = 9 ∨ i = 10 ∨ i = 11 ∨ i = 12 ∨ i = 13 ∨ i = 14) with rfl | rfl | rfl | rfl | rfl | rfl | rfl | rfl | rfl | rfl | rfl | rfl | rfl | rfl | rfl
                      · have z0 := (hW.cell (p := ⟨w.heap.size, 0, none⟩) hXl).trans y0
                        have z1 := (hW.cell (p := ⟨w.heap.size, 1, none⟩) hXl).trans y1
                        refine Free.op rfl rfl (fun K hK => ?_)
                        go_simp
                        exact hK _ _ ((HI.out _ _ _).2 ⟨rr, _, v120, v121, v122, v123, v124, v125, v126, v127, v128, v118, v129, v130, v23, v24, rfl, hW, fun _ => rfl, Free.of_set (by decide) l1, Free.of_set (by decide) l2, Free.of_set (by decide) l3, Free.of_set (by decide) l4, Free.of_set (by decide) l5, Free.of_set (by decide) l6, Free.of_set (by decide) l7, Free.of_set (by decide) l8, Free.of_set (by decide) l9, Free.of_set (by decide) l10, Free.of_set (by decide) l11, Free.of_set (by decide) l12, Free.of_set (by decide) l13, Free.of_set (by decide) l14, Free.of_set (by decide) lq, fun e => Free.fore (by decide) (ld10 (Free.back (by decide) e)), fun e => Free.fore (by decide) (ld11 (Free.back (by decide) e)), fun e => Free.fore (by decide) (ld12 (Free.back (by decide) e)), fun e => Free.fore (by decide) (ld13 (Free.back (by decide) e)), fun e => Free.fore (by decide) (ld14 (Free.back (by decide) e))⟩)
                      · refine Free.op rfl rfl (fun K hK => ?_)
                        go_simp
                        exact hK _ _ ((HI.out _ _ _).2 ⟨rr, v119, _, v121, v122, v123, v124, v125, v126, v127, v128, v118, v129, v130, v23, v24, rfl, hW, Free.of_set (by decide) l0, fun _ => rfl, Free.of_set (by decide) l2, Free.of_set (by decide) l3, Free.of_set (by decide) l4, Free.of_set (by decide) l5, Free.of_set (by decide) l6, Free.of_set (by decide) l7, Free.of_set (by decide) l8, Free.of_set (by decide) l9, Free.of_set (by decide) l10, Free.of_set (by decide) l11, Free.of_set (by decide) l12, Free.of_set (by decide) l13, Free.of_set (by decide) l14, Free.of_set (by decide) lq, fun e => Free.fore (by decide) (ld10 (Free.back (by decide) e)), fun e => Free.fore (by decide) (ld11 (Free.back (by decide) e)), fun e => Free.fore (by decide) (ld12 (Free.back (by decide) e)), fun e => Free.fore (by decide) (ld13 (Free.back (by decide) e)), fun e => Free.fore (by decide) (ld14 (Free.back (by decide) e))⟩)
                      · refine Free.op rfl rfl (fun K hK => ?_)
                        go_simp
                        exact hK _ _ ((HI.out _ _ _).2 ⟨rr, v119, v120, _, v122, v123, v124, v125, v126, v127, v128, v118, v129, v130, v23, v24, rfl, hW, Free.of_set (by decide) l0, Free.of_set (by decide) l1, fun _ => rfl, Free.of_set (by decide) l3, Free.of_set (by decide) l4, Free.of_set (by decide) l5, Free.of_set (by decide) l6, Free.of_set (by decide) l7, Free.of_set (by decide) l8, Free.of_set (by decide) l9, Free.of_set (by decide) l10, Free.of_set (by decide) l11, Free.of_set (by decide) l12, Free.of_set (by decide) l13, Free.of_set (by decide) l14, Free.of_set (by decide) lq, fun e => Free.fore (by decide) (ld10 (Free.back (by decide) e)), fun e => Free.fore (by decide) (ld11 (Free.back (by decide) e)), fun e => Free.fore (by decide) (ld12 (Free.back (by decide) e)), fun e => Free.fore (by decide) (ld13 (Free.back (by decide) e)), fun e => Free.fore (by decide) (ld14 (Free.back (by decide) e))⟩)
                      · refine Free.op rfl rfl (fun K hK => ?_)
                        obtain rfl := l1 (hne 1 (by kernel_rfl))
                        obtain rfl := l2 (hne 2 (by kernel_rfl))
                        go_simp
                        exact hK _ _ ((HI.out _ _ _).2 ⟨rr, v119, _, _, _, v123, v124, v125, v126, v127, v128, v118, v129, v130, v23, v24, rfl, hW, Free.of_set (by decide) l0, fun _ => rfl, fun _ => rfl, fun _ => rfl, Free.of_set (by decide) l4, Free.of_set (by decide) l5, Free.of_set (by decide) l6, Free.of_set (by decide) l7, Free.of_set (by decide) l8, Free.of_set (by decide) l9, Free.of_set (by decide) l10, Free.of_set (by decide) l11, Free.of_set (by decide) l12, Free.of_set (by decide) l13, Free.of_set (by decide) l14, Free.of_set (by decide) lq, fun e => Free.fore (by decide) (ld10 (Free.back (by decide) e)), fun e => Free.fore (by decide) (ld11 (Free.back (by decide) e)), fun e => Free.fore (by decide) (ld12 (Free.back (by decide) e)), fun e => Free.fore (by decide) (ld13 (Free.back (by decide) e)), fun e => Free.fore (by decide) (ld14 (Free.back (by decide) e))⟩)
                      · have z := (hW.cell (p := ⟨b6, o6 + k, none⟩) hk6).trans y6
                        refine Free.op rfl rfl (fun K hK => ?_)
                        obtain rfl := l3 (hne 3 (by kernel_rfl))
                        go_simp
                        exact hK _ _ ((HI.out _ _ _).2 ⟨rr, v119, v120, v121, _, _, v124, v125, v126, v127, v128, v118, v129, v130, v23, v24, rfl, hW, Free.of_set (by decide) l0, Free.of_set (by decide) l1, Free.of_set (by decide) l2, fun _ => rfl, fun _ => rfl, Free.of_set (by decide) l5, Free.of_set (by decide) l6, Free.of_set (by decide) l7, Free.of_set (by decide) l8, Free.of_set (by decide) l9, Free.of_set (by decide) l10, Free.of_set (by decide) l11, Free.of_set (by decide) l12, Free.of_set (by decide) l13, Free.of_set (by decide) l14, Free.of_set (by decide) lq, fun e => Free.fore (by decide) (ld10 (Free.back (by decide) e)), fun e => Free.fore (by decide) (ld11 (Free.back (by decide) e)), fun e => Free.fore (by decide) (ld12 (Free.back (by decide) e)), fun e => Free.fore (by decide) (ld13 (Free.back (by decide) e)), fun e => Free.fore (by decide) (ld14 (Free.back (by decide) e))⟩)
                      · refine Free.op rfl rfl (fun K hK => ?_)
                        go_simp
                        exact hK _ _ ((HI.out _ _ _).2 ⟨rr, v119, v120, v121, v122, v123, _, v125, v126, v127, v128, v118, v129, v130, v23, v24, rfl, hW, Free.of_set (by decide) l0, Free.of_set (by decide) l1, Free.of_set (by decide) l2, Free.of_set (by decide) l3, Free.of_set (by decide) l4, fun _ => rfl, Free.of_set (by decide) l6, Free.of_set (by decide) l7, Free.of_set (by decide) l8, Free.of_set (by decide) l9, Free.of_set (by decide) l10, Free.of_set (by decide) l11, Free.of_set (by decide) l12, Free.of_set (by decide) l13, Free.of_set (by decide) l14, Free.of_set (by decide) lq, fun e => Free.fore (by decide) (ld10 (Free.back (by decide) e)), fun e => Free.fore (by decide) (ld11 (Free.back (by decide) e)), fun e => Free.fore (by decide) (ld12 (Free.back (by decide) e)), fun e => Free.fore (by decide) (ld13 (Free.back (by decide) e)), fun e => Free.fore (by decide) (ld14 (Free.back (by decide) e))⟩)
                      · refine Free.op rfl rfl (fun K hK => ?_)
                        go_simp
                        exact hK _ _ ((HI.out _ _ _).2 ⟨rr, v119, v120, v121, v122, v123, v124, _, v126, v127, v128, v118, v129, v130, v23, v24, rfl, hW, Free.of_set (by decide) l0, Free.of_set (by decide) l1, Free.of_set (by decide) l2, Free.of_set (by decide) l3, Free.of_set (by decide) l4, Free.of_set (by decide) l5, fun _ => rfl, Free.of_set (by decide) l7, Free.of_set (by decide) l8, Free.of_set (by decide) l9, Free.of_set (by decide) l10, Free.of_set (by decide) l11, Free.of_set (by decide) l12, Free.of_set (by decide) l13, Free.of_set (by decide) l14, Free.of_set (by decide) lq, fun e => Free.fore (by decide) (ld10 (Free.back (by decide) e)), fun e => Free.fore (by decide) (ld11 (Free.back (by decide) e)), fun e => Free.fore (by decide) (ld12 (Free.back (by decide) e)), fun e => Free.fore (by decide) (ld13 (Free.back (by decide) e)), fun e => Free.fore (by decide) (ld14 (Free.back (by decide) e))⟩)
                      · refine Free.op rfl rfl (fun K hK => ?_)
                        obtain rfl := l5 (hne 5 (by kernel_rfl))
                        obtain rfl := l6 (hne 6 (by kernel_rfl))
                        go_simp
                        exact hK _ _ ((HI.out _ _ _).2 ⟨rr, v119, v120, v121, v122, v123, _, _, _, v127, v128, v118, v129, v130, v23, v24, rfl, hW, Free.of_set (by decide) l0, Free.of_set (by decide) l1, Free.of_set (by decide) l2, Free.of_set (by decide) l3, Free.of_set (by decide) l4, fun _ => rfl, fun _ => rfl, fun _ => rfl, Free.of_set (by decide) l8, Free.of_set (by decide) l9, Free.of_set (by decide) l10, Free.of_set (by decide) l11, Free.of_set (by decide) l12, Free.of_set (by decide) l13, Free.of_set (by decide) l14, Free.of_set (by decide) lq, fun e => Free.fore (by decide) (ld10 (Free.back (by decide) e)), fun e => Free.fore (by decide) (ld11 (Free.back (by decide) e)), fun e => Free.fore (by decide) (ld12 (Free.back (by decide) e)), fun e => Free.fore (by decide) (ld13 (Free.back (by decide) e)), fun e => Free.fore (by decide) (ld14 (Free.back (by decide) e))⟩)
                      · have z := (hW.cell (p := ⟨b7, o7 + k, none⟩) hk7).trans y7
                        refine Free.op rfl rfl (fun K hK => ?_)
                        obtain rfl := l7 (hne 7 (by kernel_rfl))
                        go_simp
                        exact hK _ _ ((HI.out _ _ _).2 ⟨rr, v119, v120, v121, v122, v123, v124, v125, _, _, v128, v118, v129, v130, v23, v24, rfl, hW, Free.of_set (by decide) l0, Free.of_set (by decide) l1, Free.of_set (by decide) l2, Free.of_set (by decide) l3, Free.of_set (by decide) l4, Free.of_set (by decide) l5, Free.of_set (by decide) l6, fun _ => rfl, fun _ => rfl, Free.of_set (by decide) l9, Free.of_set (by decide) l10, Free.of_set (by decide) l11, Free.of_set (by decide) l12, Free.of_set (by decide) l13, Free.of_set (by decide) l14, Free.of_set (by decide) lq, fun e => Free.fore (by decide) (ld10 (Free.back (by decide) e)), fun e => Free.fore (by decide) (ld11 (Free.back (by decide) e)), fun e => Free.fore (by decide) (ld12 (Free.back (by decide) e)), fun e => Free.fore (by decide) (ld13 (Free.back (by decide) e)), fun e => Free.fore (by decide) (ld14 (Free.back (by decide) e))⟩)
                      · refine Free.op rfl rfl (fun K hK => ?_)
                        obtain rfl := l0 (hne 0 (by kernel_rfl))
                        obtain rfl := l4 (hne 4 (by kernel_rfl))
                        obtain rfl := l8 (hne 8 (by kernel_rfl))
                        go_wp2_with (go_at_call 12; refine (HMV _ (hLF.step hW) (hLP.step hW) ((e6.keep hW).wide hW.size) ((e7.keep hW).wide hW.size)).out.mono ?_; rintro e W3 ⟨r, rfl, hq1, hb, hq2⟩)
                        exact (HI.out _ _ _).2 ⟨_, _, v120, v121, v122, _, v124, v125, v126, _, _, v118, v129, v130, v23, v24, rfl, hW.trans (hb.mono hW.size), fun _ => rfl, Free.of_set (by decide) l1, Free.of_set (by decide) l2, Free.of_set (by decide) l3, fun _ => rfl, Free.of_set (by decide) l5, Free.of_set (by decide) l6, Free.of_set (by decide) l7, fun _ => rfl, fun _ => rfl, Free.never ld10 hnl (by decide), Free.never ld11 hnl (by decide), Free.never ld12 hnl (by decide), Free.never ld13 hnl (by decide), Free.never ld14 hnl (by decide), fun _ => ⟨hq1, fun g e => Nat.le_trans hW.size (hq2 g e)⟩, Free.never ld10 hnl (by decide), Free.never ld11 hnl (by decide), Free.never ld12 hnl (by decide), Free.never ld13 hnl (by decide), Free.never ld14 hnl (by decide)⟩
                      · refine Free.op rfl rfl (fun K hK => ?_)
                        obtain rfl := l9 (hne 9 (by kernel_rfl))
                        go_simp
                        exact hK _ _ ((HI.out _ _ _).2 ⟨rr, v119, v120, v121, v122, v123, v124, v125, v126, v127, _, _, v129, v130, v23, v24, rfl, hW, Free.of_set (by decide) l0, Free.of_set (by decide) l1, Free.of_set (by decide) l2, Free.of_set (by decide) l3, Free.of_set (by decide) l4, Free.of_set (by decide) l5, Free.of_set (by decide) l6, Free.of_set (by decide) l7, Free.of_set (by decide) l8, fun _ => rfl, fun _ => rfl, Free.of_set (by decide) l11, Free.of_set (by decide) l12, Free.of_set (by decide) l13, Free.of_set (by decide) l14, Free.of_set (by decide) lq, fun _ => Free.fore (by decide) (hne 9 (by kernel_rfl)), fun e => Free.fore (by decide) (ld11 (Free.back (by decide) e)), fun e => Free.fore (by decide) (ld12 (Free.back (by decide) e)), fun e => Free.fore (by decide) (ld13 (Free.back (by decide) e)), fun e => Free.fore (by decide) (ld14 (Free.back (by decide) e))⟩)
                      · refine Free.op rfl rfl (fun K hK => ?_)
                        obtain rfl := l10 (hne 10 (by kernel_rfl))
                        go_simp
                        exact hK _ _ ((HI.out _ _ _).2 ⟨rr, v119, v120, v121, v122, v123, v124, v125, v126, v127, v128, _, _, v130, v23, v24, rfl, hW, Free.of_set (by decide) l0, Free.of_set (by decide) l1, Free.of_set (by decide) l2, Free.of_set (by decide) l3, Free.of_set (by decide) l4, Free.of_set (by decide) l5, Free.of_set (by decide) l6, Free.of_set (by decide) l7, Free.of_set (by decide) l8, Free.of_set (by decide) l9, fun _ => rfl, fun _ => rfl, Free.of_set (by decide) l12, Free.of_set (by decide) l13, Free.of_set (by decide) l14, Free.of_set (by decide) lq, fun e => Free.fore (by decide) (ld10 (Free.back (by decide) e)), fun _ => Free.fore (by decide) (ld10 (hne 10 (by kernel_rfl))), fun e => Free.fore (by decide) (ld12 (Free.back (by decide) e)), fun e => Free.fore (by decide) (ld13 (Free.back (by decide) e)), fun e => Free.fore (by decide) (ld14 (Free.back (by decide) e))⟩)
                      · refine Free.op rfl rfl (fun K hK => ?_)
                        obtain rfl := l10 (hne 10 (by kernel_rfl))
                        go_simp
                        exact hK _ _ ((HI.out _ _ _).2 ⟨rr, v119, v120, v121, v122, v123, v124, v125, v126, v127, v128, _, v129, _, v23, v24, rfl, hW, Free.of_set (by decide) l0, Free.of_set (by decide) l1, Free.of_set (by decide) l2, Free.of_set (by decide) l3, Free.of_set (by decide) l4, Free.of_set (by decide) l5, Free.of_set (by decide) l6, Free.of_set (by decide) l7, Free.of_set (by decide) l8, Free.of_set (by decide) l9, fun _ => rfl, Free.of_set (by decide) l11, fun _ => rfl, Free.of_set (by decide) l13, Free.of_set (by decide) l14, Free.of_set (by decide) lq, fun e => Free.fore (by decide) (ld10 (Free.back (by decide) e)), fun e => Free.fore (by decide) (ld11 (Free.back (by decide) e)), fun _ => Free.fore (by decide) (ld10 (hne 10 (by kernel_rfl))), fun e => Free.fore (by decide) (ld13 (Free.back (by decide) e)), fun e => Free.fore (by decide) (ld14 (Free.back (by decide) e))⟩)
                      · refine Free.op rfl rfl (fun K hK => ?_)
                        obtain rfl := (l11 (hne 11 (by kernel_rfl))).symm
                        go_simp
                        exact hK _ _ ((HI.out _ _ _).2 ⟨rr, v119, v120, v121, v122, v123, v124, v125, v126, v127, v128, v118, _, v130, _, v24, rfl, hW, Free.of_set (by decide) l0, Free.of_set (by decide) l1, Free.of_set (by decide) l2, Free.of_set (by decide) l3, Free.of_set (by decide) l4, Free.of_set (by decide) l5, Free.of_set (by decide) l6, Free.of_set (by decide) l7, Free.of_set (by decide) l8, Free.of_set (by decide) l9, Free.of_set (by decide) l10, fun _ => rfl, Free.of_set (by decide) l12, fun _ => rfl, Free.of_set (by decide) l14, Free.of_set (by decide) lq, fun e => Free.fore (by decide) (ld10 (Free.back (by decide) e)), fun e => Free.fore (by decide) (ld11 (Free.back (by decide) e)), fun e => Free.fore (by decide) (ld12 (Free.back (by decide) e)), fun _ => Free.fore (by decide) (ld11 (hne 11 (by kernel_rfl))), fun e => Free.fore (by decide) (ld14 (Free.back (by decide) e))⟩)
                      · refine Free.op rfl rfl (fun K hK => ?_)
                        obtain rfl := l12 (hne 12 (by kernel_rfl))
                        go_simp
                        exact hK _ _ ((HI.out _ _ _).2 ⟨rr, v119, v120, v121, v122, v123, v124, v125, v126, v127, v128, v118, v129, _, v23, _, rfl, hW, Free.of_set (by decide) l0, Free.of_set (by decide) l1, Free.of_set (by decide) l2, Free.of_set (by decide) l3, Free.of_set (by decide) l4, Free.of_set (by decide) l5, Free.of_set (by decide) l6, Free.of_set (by decide) l7, Free.of_set (by decide) l8, Free.of_set (by decide) l9, Free.of_set (by decide) l10, Free.of_set (by decide) l11, fun _ => rfl, Free.of_set (by decide) l13, fun _ => rfl, Free.of_set (by decide) lq, fun e => Free.fore (by decide) (ld10 (Free.back (by decide) e)), fun e => Free.fore (by decide) (ld11 (Free.back (by decide) e)), fun e => Free.fore (by decide) (ld12 (Free.back (by decide) e)), fun e => Free.fore (by decide) (ld13 (Free.back (by decide) e)), fun _ => Free.fore (by decide) (ld12 (hne 12 (by kernel_rfl)))⟩)
                    case s3 =>
                      intro listed aq W1 hall hsz hv
                      obtain ⟨rr, v119, v120, v121, v122, v123, v124, v125, v126, v127, v128, v118, v129, v130, v23, v24, rfl, hW, l0, l1, l2, l3, l4, l5, l6, l7, l8, l9, l10, l11, l12, l13, l14, lq, ld10, ld11, ld12, ld13, ld14⟩ := (HI.out _ _ _).1 hv
                      clear hv HI
                      obtain rfl := l0 (Free.listed_of hall hsz 0 (by decide))
                      obtain rfl := l1 (Free.listed_of hall hsz 1 (by decide))
                      obtain rfl := l2 (Free.listed_of hall hsz 2 (by decide))
                      obtain rfl := l3 (Free.listed_of hall hsz 3 (by decide))
                      obtain rfl := l4 (Free.listed_of hall hsz 4 (by decide))
                      obtain rfl := l5 (Free.listed_of hall hsz 5 (by decide))
                      obtain rfl := l6 (Free.listed_of hall hsz 6 (by decide))
                      obtain rfl := l7 (Free.listed_of hall hsz 7 (by decide))
                      obtain rfl := l8 (Free.listed_of hall hsz 8 (by decide))
                      obtain rfl := l9 (Free.listed_of hall hsz 9 (by decide))
                      obtain rfl := l10 (Free.listed_of hall hsz 10 (by decide))
                      obtain rfl := (l11 (Free.listed_of hall hsz 11 (by decide))).symm
                      obtain rfl := l12 (Free.listed_of hall hsz 12 (by decide))
                      obtain rfl := (l13 (Free.listed_of hall hsz 13 (by decide))).symm
                      obtain rfl := l14 (Free.listed_of hall hsz 14 (by decide))
                      have hq := lq (Free.listed_of hall hsz 9 (by decide))
                      clear lq ld10 ld11 ld12 ld13 ld14
                      clear hall hsz
                      obtain ⟨hq1, hq2⟩ := hq
                      obtain ⟨a8, c8, rfl, -⟩ := (id hq1)
                      replace hF := hF.step hW
                      have hR2 := (hR.step hW).step ((Below.refl _ _).alloc (Nat.le_refl _) (.cells #[.slice a8 Z.1.length c8] 26))
                      obtain ⟨xs, hown, hh⟩ := hR2.row
                      rw [Um.paths_length] at hown
                      have hsz := (hF.alloc (.cells #[.slice a8 Z.1.length c8] 26)).size
                      have HHh := hid hh
                      have HVv := hid (((hq1.keep ((Below.refl _ _).alloc (Nat.le_refl _) (.cells #[.slice a8 Z.1.length c8] 26)))).wide (by simp : W1.heap.size ≤ (W1.alloc (.cells #[.slice a8 Z.1.length c8] 26)).heap.size))
                      clear hW y6 y7 e6 e7 HMV hLF hLP hR hR2 hh hq1 y0 y1
                      go_wp2_with (at_builtin; refine wpList_append_own_at _ rfl _ _ 27 rfl (w.alloc (.cells #[.slice a0 s.length cap0, .slice a1 p.length cap1] 25)).heap.size 26 j0 (.slice none 0 0) 1 24 Tryz.underlying27 hj0 hy0 hy1 hy2 rfl (by decide) _ _ _ rfl hown _ 1 1 [.slice a8 Z.1.length c8] rfl rfl (cell_one_new _ _ _) (by simp [Value.oneCell']) (by unfold maxLen; omega) (by omega) (by simp at hsz ⊢; omega) ?_; intro v' w1 hown' hgrow _ hat)
                      have hF3 : Fr (w.alloc (.cells #[.slice a0 s.length cap0, .slice a1 p.length cap1] 25)) w1 [] := ⟨((hF.alloc (.cells #[.slice a8 Z.1.length c8] 26)).below).grown hgrow hsz (fun j e => own_from hown j e), by simp, List.Pairwise.nil⟩
                      have hvn : ∀ g, (Value.slice a8 Z.1.length c8).ownBlock = some g → (Value.slice (some ⟨b6, o6, none⟩) (k + 1) c6).ownBlock ≠ some g := fun g e c => by
                        have := hq2 g e
                        have : b6 = g := by simpa [Value.ownBlock] using c
                        omega
                      refine ⟨⟨k + 1, by omega, by simp, by rw [HT.out], fun hz2 => ?_, hF3⟩, by simp [intOf]; omega⟩
                      rw [HT.out] at hz2
                      have hR3 := RowL.more (base := (w.alloc (.cells #[.slice a0 s.length cap0, .slice a1 p.length cap1] 25)).heap.size) (T := 26) HHh.out (by rw [Um.paths_length]; simpa using hown.1) HVv.out hvn (fun z q hz g hg hq => li_block hz hq g hg) (HNE.out hz2)
                        (fun j hj => by rw [Um.paths_length] at hj; rw [Um.paths_get hj]; exact HNA.out j (by omega)) (by rw [Um.paths_length]; exact hown') hgrow hat
                      rw [Um.paths_succ, HT.out]
                      exact hR3

                  · obtain rfl : k = u.length := by omega
                    have hkk : decide ((u.length : Int) < (u.length : Int)) = false := decide_eq_false (by omega)
                    have kz : ((Um.pathN s p x u u.length).2 != 0) = false := by simpa using hz
                    have EPA : Um.pathAll s p x u = (Um.paths s p x u (u.length + 1), (Um.pathN s p x u u.length).2) := by unfold Um.pathAll; rw [if_pos HPF.out, if_pos hz, hz]
                    have HMO := Um.pathAll_most s p x u
                    rw [EPA] at HMO
                    have HPA2 := fun w h1 h2 h3 h4 => hid (path_is EPA (.slice a0 s.length cap0) (.slice a1 p.length cap1) (.slice a3 x.length cap3) (.slice a4 u.length cap4) w h1 h2 h3 h4)
                    have hR := hrow hz
                    have hw := hR.ll
                    have HPL1 : Hid ((Um.paths s p x u (u.length + 1)).length ≤ 1000) := hid (Nat.le_trans (show (Um.paths s p x u (u.length + 1)).length ≤ 21 from HMO.1) (by decide))
                    have HPL2 : Hid (∀ j, j < (Um.paths s p x u (u.length + 1)).length → ((Um.paths s p x u (u.length + 1))[j]?.getD []).length ≤ 5) := hid fun j hj => HMO.2 j hj
                    clear EPA HMO hR hrow hz HXL HSL HPF
                    generalize (Um.pathN s p x u u.length).2 = N2 at *
                    generalize Um.paths s p x u (u.length + 1) = PL at *
                    obtain ⟨a9, c9, rfl, -⟩ := (id hw)
                    go_upto_region 29 with fail
                    go_upto_region 30 with (go_at_call 13; refine (HPA2 _ (hF.lf hf2) (hF.ls hp2) (hF.li hx2) (hF.ll hu2)).out.mono ?_; rintro e wn ⟨r4, rfl, hh, hb⟩; replace hw := hw.step hb; replace hF := hF.step hb; clear hb; clear y0 y1; have y0 := (hF.below.cell (p := ⟨w.heap.size, 0, none⟩) h1).trans c0; have y1 := (hF.below.cell (p := ⟨w.heap.size, 1, none⟩) h1).trans c1; obtain ⟨s4, d4, rfl, -⟩ := (id hh); clear HPA2)
                    go_upto_region 31 with (first | (go_at_call 6; refine (hid (same_any _ _ _ (hg.below (B := w.heap.size) (hBW.trans (hF.below.mono hBW.size)) hg.size))).out.mono ?_; rintro e wn ⟨rfl, hb⟩; replace hw := hw.step hb; replace hh := hh.step hb; replace hF := hF.step hb; clear hb; clear y0 y1; have y0 := (hF.below.cell (p := ⟨w.heap.size, 0, none⟩) h1).trans c0; have y1 := (hF.below.cell (p := ⟨w.heap.size, 1, none⟩) h1).trans c1) | (go_at_call 14; refine (hid (lists_same PL _ _ _ hh hw HPL1.out HPL2.out)).out.mono ?_; rintro e wn ⟨rfl, hb⟩; replace hF := hF.step hb; clear hb; clear y0 y1; have y0 := (hF.below.cell (p := ⟨w.heap.size, 0, none⟩) h1).trans c0; have y1 := (hF.below.cell (p := ⟨w.heap.size, 1, none⟩) h1).trans c1; clear hh hw))
                    go_wp2
                    go_returns
                    exact ⟨rfl, hBW.trans (hF.below.mono hBW.size)⟩
                · have kz : ((Um.pathN s p x u k).2 == 0) = false := by simpa using hz
                  have kz2 : ((Um.pathN s p x u k).2 != 0) = true := by simpa using hz
                  have es : (Um.pathN s p x u u.length).2 = (Um.pathN s p x u k).2 := Um.path_stay hz hk
                  have EPA : Um.pathAll s p x u = ([], (Um.pathN s p x u k).2) := by unfold Um.pathAll; rw [if_pos HPF.out, if_neg (by rw [es]; exact hz), es]
                  obtain ⟨PL, hPL⟩ : ∃ PL : List (List Int), PL = [] := ⟨_, rfl⟩
                  rw [← hPL] at EPA
                  have HPA2 := fun w h1 h2 h3 h4 => hid (path_is EPA (.slice a0 s.length cap0) (.slice a1 p.length cap1) (.slice a3 x.length cap3) (.slice a4 u.length cap4) w h1 h2 h3 h4)
                  have hw : Ll wr.heap.size wr (.slice none 0 0) PL := by rw [hPL]; exact Ll.nil _ _
                  have HPL1 : Hid (PL.length ≤ 1000) := by rw [hPL]; exact hid (by decide)
                  have HPL2 : Hid (∀ j, j < PL.length → (PL[j]?.getD []).length ≤ 5) := by rw [hPL]; exact hid fun j hj => absurd hj (Nat.not_lt_zero _)
                  clear EPA es hrow hz HXL HSL HPF hPL
                  generalize (Um.pathN s p x u k).2 = N2 at *
                  by_cases hkl : k < u.length
                  · have hkk : decide ((k : Int) < (u.length : Int)) = true := decide_eq_true (by omega)
                    go_upto_region 29 with fail
                    go_upto_region 30 with (go_at_call 13; refine (HPA2 _ (hF.lf hf2) (hF.ls hp2) (hF.li hx2) (hF.ll hu2)).out.mono ?_; rintro e wn ⟨r4, rfl, hh, hb⟩; replace hw := hw.step hb; replace hF := hF.step hb; clear hb; clear y0 y1; have y0 := (hF.below.cell (p := ⟨w.heap.size, 0, none⟩) h1).trans c0; have y1 := (hF.below.cell (p := ⟨w.heap.size, 1, none⟩) h1).trans c1; obtain ⟨s4, d4, rfl, -⟩ := (id hh); clear HPA2)
                    go_upto_region 31 with (first | (go_at_call 6; refine (hid (same_any _ _ _ (hg.below (B := w.heap.size) (hBW.trans (hF.below.mono hBW.size)) hg.size))).out.mono ?_; rintro e wn ⟨rfl, hb⟩; replace hw := hw.step hb; replace hh := hh.step hb; replace hF := hF.step hb; clear hb; clear y0 y1; have y0 := (hF.below.cell (p := ⟨w.heap.size, 0, none⟩) h1).trans c0; have y1 := (hF.below.cell (p := ⟨w.heap.size, 1, none⟩) h1).trans c1) | (go_at_call 14; refine (hid (lists_same PL _ _ _ hh hw HPL1.out HPL2.out)).out.mono ?_; rintro e wn ⟨rfl, hb⟩; replace hF := hF.step hb; clear hb; clear y0 y1; have y0 := (hF.below.cell (p := ⟨w.heap.size, 0, none⟩) h1).trans c0; have y1 := (hF.below.cell (p := ⟨w.heap.size, 1, none⟩) h1).trans c1; clear hh hw))
                    go_wp2
                    go_returns
                    exact ⟨rfl, hBW.trans (hF.below.mono hBW.size)⟩
                  · have hkk : decide ((k : Int) < (u.length : Int)) = false := decide_eq_false (by omega)
                    go_upto_region 29 with fail
                    go_upto_region 30 with (go_at_call 13; refine (HPA2 _ (hF.lf hf2) (hF.ls hp2) (hF.li hx2) (hF.ll hu2)).out.mono ?_; rintro e wn ⟨r4, rfl, hh, hb⟩; replace hw := hw.step hb; replace hF := hF.step hb; clear hb; clear y0 y1; have y0 := (hF.below.cell (p := ⟨w.heap.size, 0, none⟩) h1).trans c0; have y1 := (hF.below.cell (p := ⟨w.heap.size, 1, none⟩) h1).trans c1; obtain ⟨s4, d4, rfl, -⟩ := (id hh); clear HPA2)
                    go_upto_region 31 with (first | (go_at_call 6; refine (hid (same_any _ _ _ (hg.below (B := w.heap.size) (hBW.trans (hF.below.mono hBW.size)) hg.size))).out.mono ?_; rintro e wn ⟨rfl, hb⟩; replace hw := hw.step hb; replace hh := hh.step hb; replace hF := hF.step hb; clear hb; clear y0 y1; have y0 := (hF.below.cell (p := ⟨w.heap.size, 0, none⟩) h1).trans c0; have y1 := (hF.below.cell (p := ⟨w.heap.size, 1, none⟩) h1).trans c1) | (go_at_call 14; refine (hid (lists_same PL _ _ _ hh hw HPL1.out HPL2.out)).out.mono ?_; rintro e wn ⟨rfl, hb⟩; replace hF := hF.step hb; clear hb; clear y0 y1; have y0 := (hF.below.cell (p := ⟨w.heap.size, 0, none⟩) h1).trans c0; have y1 := (hF.below.cell (p := ⟨w.heap.size, 1, none⟩) h1).trans c1; clear hh hw))
                    go_wp2
                    go_returns
                    exact ⟨rfl, hBW.trans (hF.below.mono hBW.size)⟩
            · have kz : (P2 == 0) = false := by simpa using hp2
              have kz2 : (P2 != 0) = true := by simpa using hp2
              have EPA : Um.pathAll s p x u = ([], P2) := by unfold Um.pathAll; rw [← HP2.out, if_neg hp2]
              obtain ⟨PL, hPL⟩ : ∃ PL : List (List Int), PL = [] := ⟨_, rfl⟩
              rw [← hPL] at EPA
              have HPA2 := fun w h1 h2 h3 h4 => hid (path_is EPA (.slice a0 s.length cap0) (.slice a1 p.length cap1) (.slice a3 x.length cap3) (.slice a4 u.length cap4) w h1 h2 h3 h4)
              have hw : Ll wc.heap.size wc (.slice none 0 0) PL := by rw [hPL]; exact Ll.nil _ _
              have HPL1 : Hid (PL.length ≤ 1000) := by rw [hPL]; exact hid (by decide)
              have HPL2 : Hid (∀ j, j < PL.length → (PL[j]?.getD []).length ≤ 5) := by rw [hPL]; exact hid fun j hj => absurd hj (Nat.not_lt_zero _)
              clear EPA hp2 HP2 hPL
              have hw0 := hw.step ((Below.refl _ _).alloc (Nat.le_refl _) (.cells #[.slice a3 x.length cap3] 26))
              have hF0 := hF.alloc (.cells #[.slice a3 x.length cap3] 26)
              clear hw hF y0 y1
              have hw := hw0
              have hF := hF0
              clear hw0 hF0
              have y0 := (hF.below.cell (p := ⟨w.heap.size, 0, none⟩) h1).trans c0
              have y1 := (hF.below.cell (p := ⟨w.heap.size, 1, none⟩) h1).trans c1
              by_cases hkl : 0 < u.length
              · have hkk : decide ((0 : Int) < (u.length : Int)) = true := decide_eq_true (by omega)
                go_wp2
                refine wp_loop_rounds 1 ?_
                rw [rounds_succ]
                go_upto_region 29 with fail
                go_upto_region 30 with (go_at_call 13; refine (HPA2 _ (hF.lf hf2) (hF.ls hp2) (hF.li hx2) (hF.ll hu2)).out.mono ?_; rintro e wn ⟨r4, rfl, hh, hb⟩; replace hw := hw.step hb; replace hF := hF.step hb; clear hb; clear y0 y1; have y0 := (hF.below.cell (p := ⟨w.heap.size, 0, none⟩) h1).trans c0; have y1 := (hF.below.cell (p := ⟨w.heap.size, 1, none⟩) h1).trans c1; obtain ⟨s4, d4, rfl, -⟩ := (id hh); clear HPA2)
                go_upto_region 31 with (first | (go_at_call 6; refine (hid (same_any _ _ _ (hg.below (B := w.heap.size) (hBW.trans (hF.below.mono hBW.size)) hg.size))).out.mono ?_; rintro e wn ⟨rfl, hb⟩; replace hw := hw.step hb; replace hh := hh.step hb; replace hF := hF.step hb; clear hb; clear y0 y1; have y0 := (hF.below.cell (p := ⟨w.heap.size, 0, none⟩) h1).trans c0; have y1 := (hF.below.cell (p := ⟨w.heap.size, 1, none⟩) h1).trans c1) | (go_at_call 14; refine (hid (lists_same PL _ _ _ hh hw HPL1.out HPL2.out)).out.mono ?_; rintro e wn ⟨rfl, hb⟩; replace hF := hF.step hb; clear hb; clear y0 y1; have y0 := (hF.below.cell (p := ⟨w.heap.size, 0, none⟩) h1).trans c0; have y1 := (hF.below.cell (p := ⟨w.heap.size, 1, none⟩) h1).trans c1; clear hh hw))
                go_wp2
                go_returns
                exact ⟨rfl, hBW.trans (hF.below.mono hBW.size)⟩
              · have hkk : decide ((0 : Int) < (u.length : Int)) = false := decide_eq_false (by omega)
                go_wp2
                refine wp_loop_rounds 1 ?_
                rw [rounds_succ]
                go_upto_region 29 with fail
                go_upto_region 30 with (go_at_call 13; refine (HPA2 _ (hF.lf hf2) (hF.ls hp2) (hF.li hx2) (hF.ll hu2)).out.mono ?_; rintro e wn ⟨r4, rfl, hh, hb⟩; replace hw := hw.step hb; replace hF := hF.step hb; clear hb; clear y0 y1; have y0 := (hF.below.cell (p := ⟨w.heap.size, 0, none⟩) h1).trans c0; have y1 := (hF.below.cell (p := ⟨w.heap.size, 1, none⟩) h1).trans c1; obtain ⟨s4, d4, rfl, -⟩ := (id hh); clear HPA2)
                go_upto_region 31 with (first | (go_at_call 6; refine (hid (same_any _ _ _ (hg.below (B := w.heap.size) (hBW.trans (hF.below.mono hBW.size)) hg.size))).out.mono ?_; rintro e wn ⟨rfl, hb⟩; replace hw := hw.step hb; replace hh := hh.step hb; replace hF := hF.step hb; clear hb; clear y0 y1; have y0 := (hF.below.cell (p := ⟨w.heap.size, 0, none⟩) h1).trans c0; have y1 := (hF.below.cell (p := ⟨w.heap.size, 1, none⟩) h1).trans c1) | (go_at_call 14; refine (hid (lists_same PL _ _ _ hh hw HPL1.out HPL2.out)).out.mono ?_; rintro e wn ⟨rfl, hb⟩; replace hF := hF.step hb; clear hb; clear y0 y1; have y0 := (hF.below.cell (p := ⟨w.heap.size, 0, none⟩) h1).trans c0; have y1 := (hF.below.cell (p := ⟨w.heap.size, 1, none⟩) h1).trans c1; clear hh hw))
                go_wp2
                go_returns
                exact ⟨rfl, hBW.trans (hF.below.mono hBW.size)⟩
end Go.Proofs.YtmgabhphnafokaaGreatDoor.FlTells
