/-
  What package step answers: Check, Of, Point at every argument.
-/
import Derived.Test.YthgehlonjoafmaaGreatDoorStepC
import Derived.Test.YthgehlonjoafmaaGreatDoorForm
import Derived.Test.YthgehlonjoafmaaGreatDoorSpanAdd
import Derived.Test.YthgehlonjoafmaaGreatDoorMems
namespace Go.Proofs.YthgehlonjoafmaaGreatDoor
set_option linter.unusedSimpArgs false
open Go.RowKit

theorem frAll_right {s : List (List Um.Tm)} {p b : List (Int × Int)} (h : Um.readyF s p b = 0) {i : Nat} (hi : i < s.length) : Um.frAll (Um.nx s i) b = Um.frR (Um.nx s i) b := by
  obtain ⟨hs, hb, hl⟩ := Um.ready_ok.1 h
  unfold Um.frAll
  rw [if_pos (Um.fr_ok.2 ⟨hb, by rw [hl]; exact (Um.sys_ok.1 hs).2.2.2.1 _ (Um.nx_mem hi)⟩)]

set_option maxRecDepth 100000 in
set_option maxHeartbeats 16000000 in
theorem ofOne_any (s : List (List Um.Tm)) (v0 : Value) (p : List (Int × Int)) (v1 : Value) (b : List (Int × Int)) (v : Value) (i B0 B1 : Nat) (w : World) (hf : Lf w.heap.size w v0 s) (hp : Ls w.heap.size w v1 p) (hs : Ls w.heap.size w v b) (hY : SyAt w B0 v0 v1) (hV : VaAt w B1 v) (h : Um.readyF s p b = 0) (hi : i < s.length) :
    Calls Tryz.prog 35 #[.int .i64 (i : Int), .pointer (some ⟨B0, 0, none⟩), .pointer (some ⟨B1, 0, none⟩)] w fun e w' => e = .returned (.tuple #[.agg #[.int .i64 (Um.sideR s p b i).1, .int .i64 (Um.sideR s p b i).2.1], errV (Um.sideR s p b i).2.2]) ∧ Below w.heap.size w w' := by
  have ve := errV_none
  have q1 := errG
  have q2 := errGn
  have q3 := errE
  have q4 := errN
  have hmx : Tryz.prog.follows .mixedOrders = true := by kernel_rfl
  obtain ⟨hsy, hbx, hlen⟩ := Um.ready_ok.1 h
  obtain ⟨h0, h3, hpl, -, -⟩ := Um.sys_ok.1 hsy
  have hii : (i : Int) < (s.length : Int) := by omega
  have hip : (i : Int) < (p.length : Int) := by omega
  have HP := hid (Um.sd_some (show i < p.length by omega))
  have HFA := hid (frAll_right h hi)
  have HCK := hid (fun hz => Um.sum_chk (Um.sys_terms hsy hi) hbx (Nat.le_refl _) hz)
  have HPC := hid (Um.sys_push hsy hi)
  have HFT : Hid ((Um.frR (Um.nx s i) b).2.2 = 0 ∨ Um.frR (Um.nx s i) b = (0, 0, 4)) := Um.sum_fault _ _ _
  have HM1 := hid (fun (h1 : (Um.frR (Um.nx s i) b).2.2 = 0) => (show Um.sideR s p b i = Um.addR (Um.frR (Um.nx s i) b).1 (Um.frR (Um.nx s i) b).2.1 (Um.sd p i).1 (Um.sd p i).2 by unfold Um.sideR; rw [if_pos h1]))
  have HM2 := hid (fun (h1 : ¬ (Um.frR (Um.nx s i) b).2.2 = 0) => (show Um.sideR s p b i = (0, 0, 4) by unfold Um.sideR; rw [if_neg h1]))
  obtain ⟨b1, off1, cap, rfl, hcap, hlb, hall1⟩ := hf.open h0
  obtain ⟨b2, off2, cap2, rfl, hcap2, hQ⟩ := hp.open (by intro e; rw [e] at hpl; simp at hpl; exact h0 (List.length_eq_zero_iff.1 hpl.symm))
  obtain ⟨a3, cap3, rfl, -⟩ := (id hs)
  obtain ⟨u, yu, hu⟩ := hall1 i hi
  have HRA := fun w h1 h2 => by
    have := frange_any (Um.nx s i) u b (.slice a3 b.length cap3) w h1 h2
    rw [HFA.out] at this
    exact hid this
  obtain ⟨a4, cap4, rfl, -⟩ := (id hu)
  change Hid ((Um.frR (Um.nx s i) b).2.2 = 0 → _) at HCK
  have HRR : Hid (Um.frR (Um.nx s i) b = Um.sumN (Um.nx s i) b (Um.nx s i).length) := hid rfl
  rw [← HRR.out] at HCK
  clear hf hp hall1 hsy hbx hlen hpl h0 h3 h hi hcap hcap2 HFA HRR
  have hF0 := (Fr.start w).push (b := w.heap.size) 0 0 rfl
  replace hY := hY.alloc (.cells #[.int .i64 0, .int .i64 0] 49)
  replace hV := hV.alloc (.cells #[.int .i64 0, .int .i64 0] 49)
  replace hQ := hQ.alloc (.cells #[.int .i64 0, .int .i64 0] 49)
  have hbw : Below w.heap.size w (w.alloc (.cells #[.int .i64 0, .int .i64 0] 49)) := by go_grown
  replace hu := hu.step hbw
  replace hs := hs.step hbw
  replace yu := (hbw.cell (p := ⟨b1, off1 + i, none⟩) hlb).trans yu
  replace hlb := Nat.lt_of_lt_of_le hlb hbw.size
  clear hbw
  generalize Um.sd p i = d at *
  obtain ⟨D0, D1⟩ := d
  simp only at HPC HM1
  by_cases hc : (Um.frR (Um.nx s i) b).2.2 = 0
  · have HM0 := hid (HM1.out hc)
    have HC1 := hid (HCK.out hc)
    have HR := HRA
    clear HM1 HM2 HCK HFT HRA
    generalize Um.frR (Um.nx s i) b = R at *
    have kR : (R.2.2 != 0) = false := by simpa using hc
    have HD := fun w => by
      have := add_any R.1 R.2.1 D0 D1 w
      rw [made_right HC1.out HPC.out] at this
      exact hid this
    have HM := HM0
    clear hc HM0 HC1 HPC
    generalize Um.addR R.1 R.2.1 D0 D1 = A at *
    go_enter Tryz.func35, Tryz.ntmps35
    go_wp2
    generalize w.heap.size = Bx at *
    generalize w.alloc (.cells #[.int .i64 0, .int .i64 0] 49) = W at *
    obtain ⟨Inv, hInv⟩ : ∃ Inv : Array Bool → Act → World → Prop, ∀ listed aq W', Inv listed aq W' ↔ (∃ v9 v10 v11 v12 v13 v14 v15 v8 v16 v17 v6 v7 : Value, aq = { tmps := #[Value.int IntKind.i64 ↑i, Value.pointer (some { block := B0, off := 0 }), Value.pointer (some { block := B1, off := 0 }), undef, Value.pointer (some { block := Bx, off := 0 }), Value.nilIface, v6, v7, v8, v9, v10, v11, v12, v13, v14, v15, v16, v17, undef, undef, undef, undef, undef, undef, undef, undef, undef, undef, undef, undef, undef], defers := [] } ∧ Below (W).heap.size (W) W' ∧ (listed.getD 0 false = true → v9 = .pointer (some ⟨B0, 0, none⟩)) ∧ (listed.getD 1 false = true → v10 = .slice (some ⟨b1, off1, none⟩) s.length cap) ∧ (listed.getD 2 false = true → v11 = Value.int IntKind.i64 ↑i) ∧ (listed.getD 3 false = true → v12 = .pointer (some ⟨b1, off1 + i, none⟩)) ∧ (listed.getD 4 false = true → v13 = .slice a4 (Um.nx s i).length cap4) ∧ (listed.getD 5 false = true → v14 = .slice a3 b.length cap3) ∧ (listed.getD 6 false = true → v15 = (.tuple #[.agg #[.int .i64 R.1, .int .i64 R.2.1], errV R.2.2])) ∧ (listed.getD 7 false = true → v8 = (.tuple #[.agg #[.int .i64 R.1, .int .i64 R.2.1], errV R.2.2])) ∧ (listed.getD 8 false = true → v16 = .agg #[.int .i64 R.1, .int .i64 R.2.1]) ∧ (listed.getD 9 false = true → v17 = errV R.2.2) ∧ (listed.getD 12 false = true → v7 = errV R.2.2) ∧ (listed.getD 10 false = true → ∃ (bn : Nat) (cn dn : Int), v6 = .pointer (some ⟨bn, 0, none⟩) ∧ (W).heap.size ≤ bn ∧ Sp W' bn cn dn ∧ (listed.getD 11 false = true → cn = R.1 ∧ dn = R.2.1)) ∧ (listed.getD 11 false = true → listed.getD 10 false = true)) := ⟨_, fun _ _ _ => Iff.rfl⟩
    have HI := hid hInv
    clear hInv
    refine Free.region hmx (by kernel_rfl) Inv ?s1 ?s2 ?s3
    case s1 =>
      exact (HI.out _ _ _).2 ⟨undef, undef, undef, undef, undef, undef, undef, undef, undef, undef, undef, undef, rfl, (Below.refl _ _).drew, Free.not_yet, Free.not_yet, Free.not_yet, Free.not_yet, Free.not_yet, Free.not_yet, Free.not_yet, Free.not_yet, Free.not_yet, Free.not_yet, Free.not_yet, Free.not_yet, Free.not_yet⟩
    case s2 =>
      intro i listed aq W1 hix hne hnl hsz hv
      obtain ⟨v9, v10, v11, v12, v13, v14, v15, v8, v16, v17, v6, v7, rfl, hW, l0, l1, l2, l3, l4, l5, l6, l7, l8, l9, l12, ln, lp⟩ := (HI.out _ _ _).1 hv
      clear hv
      replace hix : i < 13 := hix
      replace hsz : listed.size = 13 := hsz
      rcases (by omega : i = 0 ∨ i = 1 ∨ i = 2 ∨ i = 3 ∨ i = 4 ∨ i = 5 ∨ i = 6 ∨ i = 7 ∨ i = 8 ∨ i = 9 ∨ i = 10 ∨ i = 11 ∨ i = 12) with rfl | rfl | rfl | rfl | rfl | rfl | rfl | rfl | rfl | rfl | rfl | rfl | rfl
      · refine Free.op rfl rfl (fun K hK => ?_)
        go_simp
        exact hK _ _ ((HI.out _ _ _).2 ⟨_, v10, v11, v12, v13, v14, v15, v8, v16, v17, v6, v7, rfl, hW, fun _ => rfl, Free.of_set (by decide) l1, Free.of_set (by decide) l2, Free.of_set (by decide) l3, Free.of_set (by decide) l4, Free.of_set (by decide) l5, Free.of_set (by decide) l6, Free.of_set (by decide) l7, Free.of_set (by decide) l8, Free.of_set (by decide) l9, Free.of_set (by decide) l12, fun e => by obtain ⟨bn, cn, dn, q1, q2, q3, q4⟩ := ln (Free.back (by decide) e); exact ⟨bn, cn, dn, q1, q2, q3, fun e2 => q4 (Free.back (by decide) e2)⟩, fun e => Free.fore (by decide) (lp (Free.back (by decide) e))⟩)
      · have z := (hY.step hW).c0
        refine Free.op rfl rfl (fun K hK => ?_)
        obtain rfl := l0 (hne 0 (by kernel_rfl))
        go_simp
        exact hK _ _ ((HI.out _ _ _).2 ⟨_, _, v11, v12, v13, v14, v15, v8, v16, v17, v6, v7, rfl, hW, fun _ => rfl, fun _ => rfl, Free.of_set (by decide) l2, Free.of_set (by decide) l3, Free.of_set (by decide) l4, Free.of_set (by decide) l5, Free.of_set (by decide) l6, Free.of_set (by decide) l7, Free.of_set (by decide) l8, Free.of_set (by decide) l9, Free.of_set (by decide) l12, fun e => by obtain ⟨bn, cn, dn, q1, q2, q3, q4⟩ := ln (Free.back (by decide) e); exact ⟨bn, cn, dn, q1, q2, q3, fun e2 => q4 (Free.back (by decide) e2)⟩, fun e => Free.fore (by decide) (lp (Free.back (by decide) e))⟩)
      · refine Free.op rfl rfl (fun K hK => ?_)
        go_simp
        exact hK _ _ ((HI.out _ _ _).2 ⟨v9, v10, _, v12, v13, v14, v15, v8, v16, v17, v6, v7, rfl, hW, Free.of_set (by decide) l0, Free.of_set (by decide) l1, fun _ => rfl, Free.of_set (by decide) l3, Free.of_set (by decide) l4, Free.of_set (by decide) l5, Free.of_set (by decide) l6, Free.of_set (by decide) l7, Free.of_set (by decide) l8, Free.of_set (by decide) l9, Free.of_set (by decide) l12, fun e => by obtain ⟨bn, cn, dn, q1, q2, q3, q4⟩ := ln (Free.back (by decide) e); exact ⟨bn, cn, dn, q1, q2, q3, fun e2 => q4 (Free.back (by decide) e2)⟩, fun e => Free.fore (by decide) (lp (Free.back (by decide) e))⟩)
      · refine Free.op rfl rfl (fun K hK => ?_)
        obtain rfl := l1 (hne 1 (by kernel_rfl))
        obtain rfl := l2 (hne 2 (by kernel_rfl))
        go_simp
        exact hK _ _ ((HI.out _ _ _).2 ⟨v9, _, _, _, v13, v14, v15, v8, v16, v17, v6, v7, rfl, hW, Free.of_set (by decide) l0, fun _ => rfl, fun _ => rfl, fun _ => rfl, Free.of_set (by decide) l4, Free.of_set (by decide) l5, Free.of_set (by decide) l6, Free.of_set (by decide) l7, Free.of_set (by decide) l8, Free.of_set (by decide) l9, Free.of_set (by decide) l12, fun e => by obtain ⟨bn, cn, dn, q1, q2, q3, q4⟩ := ln (Free.back (by decide) e); exact ⟨bn, cn, dn, q1, q2, q3, fun e2 => q4 (Free.back (by decide) e2)⟩, fun e => Free.fore (by decide) (lp (Free.back (by decide) e))⟩)
      · have z := (hW.cell (p := ⟨b1, off1 + i, none⟩) hlb).trans yu
        refine Free.op rfl rfl (fun K hK => ?_)
        obtain rfl := l3 (hne 3 (by kernel_rfl))
        go_simp
        exact hK _ _ ((HI.out _ _ _).2 ⟨v9, v10, v11, _, _, v14, v15, v8, v16, v17, v6, v7, rfl, hW, Free.of_set (by decide) l0, Free.of_set (by decide) l1, Free.of_set (by decide) l2, fun _ => rfl, fun _ => rfl, Free.of_set (by decide) l5, Free.of_set (by decide) l6, Free.of_set (by decide) l7, Free.of_set (by decide) l8, Free.of_set (by decide) l9, Free.of_set (by decide) l12, fun e => by obtain ⟨bn, cn, dn, q1, q2, q3, q4⟩ := ln (Free.back (by decide) e); exact ⟨bn, cn, dn, q1, q2, q3, fun e2 => q4 (Free.back (by decide) e2)⟩, fun e => Free.fore (by decide) (lp (Free.back (by decide) e))⟩)
      · have z := (hV.step hW).c
        refine Free.op rfl rfl (fun K hK => ?_)
        go_simp
        exact hK _ _ ((HI.out _ _ _).2 ⟨v9, v10, v11, v12, v13, _, v15, v8, v16, v17, v6, v7, rfl, hW, Free.of_set (by decide) l0, Free.of_set (by decide) l1, Free.of_set (by decide) l2, Free.of_set (by decide) l3, Free.of_set (by decide) l4, fun _ => rfl, Free.of_set (by decide) l6, Free.of_set (by decide) l7, Free.of_set (by decide) l8, Free.of_set (by decide) l9, Free.of_set (by decide) l12, fun e => by obtain ⟨bn, cn, dn, q1, q2, q3, q4⟩ := ln (Free.back (by decide) e); exact ⟨bn, cn, dn, q1, q2, q3, fun e2 => q4 (Free.back (by decide) e2)⟩, fun e => Free.fore (by decide) (lp (Free.back (by decide) e))⟩)
      · refine Free.op rfl rfl (fun K hK => ?_)
        obtain rfl := l4 (hne 4 (by kernel_rfl))
        obtain rfl := l5 (hne 5 (by kernel_rfl))
        go_wp2_with (go_at_call 36; refine (HR _ (hu.step hW) (hs.step hW)).out.mono ?_; rintro e W3 ⟨rfl, hb⟩)
        exact (HI.out _ _ _).2 ⟨v9, v10, v11, v12, _, _, _, v8, v16, v17, v6, v7, rfl, hW.trans (hb.mono hW.size), Free.of_set (by decide) l0, Free.of_set (by decide) l1, Free.of_set (by decide) l2, Free.of_set (by decide) l3, fun _ => rfl, fun _ => rfl, fun _ => rfl, Free.of_set (by decide) l7, Free.of_set (by decide) l8, Free.of_set (by decide) l9, Free.of_set (by decide) l12, fun e => by obtain ⟨bn, cn, dn, q1, q2, q3, q4⟩ := ln (Free.back (by decide) e); exact ⟨bn, cn, dn, q1, q2, (q3.step hb), fun e2 => q4 (Free.back (by decide) e2)⟩, fun e => Free.fore (by decide) (lp (Free.back (by decide) e))⟩
      · refine Free.op rfl rfl (fun K hK => ?_)
        obtain rfl := l6 (hne 6 (by kernel_rfl))
        go_simp
        exact hK _ _ ((HI.out _ _ _).2 ⟨v9, v10, v11, v12, v13, v14, _, _, v16, v17, v6, v7, rfl, hW, Free.of_set (by decide) l0, Free.of_set (by decide) l1, Free.of_set (by decide) l2, Free.of_set (by decide) l3, Free.of_set (by decide) l4, Free.of_set (by decide) l5, fun _ => rfl, fun _ => rfl, Free.of_set (by decide) l8, Free.of_set (by decide) l9, Free.of_set (by decide) l12, fun e => by obtain ⟨bn, cn, dn, q1, q2, q3, q4⟩ := ln (Free.back (by decide) e); exact ⟨bn, cn, dn, q1, q2, q3, fun e2 => q4 (Free.back (by decide) e2)⟩, fun e => Free.fore (by decide) (lp (Free.back (by decide) e))⟩)
      · refine Free.op rfl rfl (fun K hK => ?_)
        obtain rfl := l7 (hne 7 (by kernel_rfl))
        go_simp
        exact hK _ _ ((HI.out _ _ _).2 ⟨v9, v10, v11, v12, v13, v14, v15, _, _, v17, v6, v7, rfl, hW, Free.of_set (by decide) l0, Free.of_set (by decide) l1, Free.of_set (by decide) l2, Free.of_set (by decide) l3, Free.of_set (by decide) l4, Free.of_set (by decide) l5, Free.of_set (by decide) l6, fun _ => rfl, fun _ => rfl, Free.of_set (by decide) l9, Free.of_set (by decide) l12, fun e => by obtain ⟨bn, cn, dn, q1, q2, q3, q4⟩ := ln (Free.back (by decide) e); exact ⟨bn, cn, dn, q1, q2, q3, fun e2 => q4 (Free.back (by decide) e2)⟩, fun e => Free.fore (by decide) (lp (Free.back (by decide) e))⟩)
      · refine Free.op rfl rfl (fun K hK => ?_)
        obtain rfl := l7 (hne 7 (by kernel_rfl))
        go_simp
        exact hK _ _ ((HI.out _ _ _).2 ⟨v9, v10, v11, v12, v13, v14, v15, _, v16, _, v6, v7, rfl, hW, Free.of_set (by decide) l0, Free.of_set (by decide) l1, Free.of_set (by decide) l2, Free.of_set (by decide) l3, Free.of_set (by decide) l4, Free.of_set (by decide) l5, Free.of_set (by decide) l6, fun _ => rfl, Free.of_set (by decide) l8, fun _ => rfl, Free.of_set (by decide) l12, fun e => by obtain ⟨bn, cn, dn, q1, q2, q3, q4⟩ := ln (Free.back (by decide) e); exact ⟨bn, cn, dn, q1, q2, q3, fun e2 => q4 (Free.back (by decide) e2)⟩, fun e => Free.fore (by decide) (lp (Free.back (by decide) e))⟩)
      · have hs : listed.getD 11 false = false := by
          cases e : listed.getD 11 false
          · rfl
          · rw [Free.off hnl] at lp; cases lp e
        refine Free.op rfl rfl (fun K hK => ?_)
        go_simp
        exact hK _ _ ((HI.out _ _ _).2 ⟨v9, v10, v11, v12, v13, v14, v15, v8, v16, v17, _, v7, rfl, hW.alloc hW.size _, Free.of_set (by decide) l0, Free.of_set (by decide) l1, Free.of_set (by decide) l2, Free.of_set (by decide) l3, Free.of_set (by decide) l4, Free.of_set (by decide) l5, Free.of_set (by decide) l6, Free.of_set (by decide) l7, Free.of_set (by decide) l8, Free.of_set (by decide) l9, Free.of_set (by decide) l12, fun _ => ⟨_, _, _, rfl, hW.size, Sp.new _ _ _, fun e => by rw [Free.set_other (by decide), hs] at e; cases e⟩, fun e => by rw [Free.set_other (by decide), hs] at e; cases e⟩)
      · have N := hid (hne 10 (by kernel_rfl))
        obtain ⟨bn, cn, dn, q1, q2, q3, q4⟩ := ln N.out
        subst q1
        have y1 := q3.fl
        have y2 := q3.fh
        have y3 := q3.lo
        have y4 := q3.hi
        refine Free.op rfl rfl (fun K hK => ?_)
        obtain rfl := l8 (hne 8 (by kernel_rfl))
        go_simp
        exact hK _ _ ((HI.out _ _ _).2 ⟨v9, v10, v11, v12, v13, v14, v15, v8, _, v17, _, v7, rfl, (hW.setCell q2 _).setCell q2 _, Free.of_set (by decide) l0, Free.of_set (by decide) l1, Free.of_set (by decide) l2, Free.of_set (by decide) l3, Free.of_set (by decide) l4, Free.of_set (by decide) l5, Free.of_set (by decide) l6, Free.of_set (by decide) l7, fun _ => rfl, Free.of_set (by decide) l9, Free.of_set (by decide) l12, fun _ => ⟨_, _, _, rfl, q2, q3.set _ _, fun _ => ⟨rfl, rfl⟩⟩, fun _ => Free.fore (by decide) N.out⟩)
      · refine Free.op rfl rfl (fun K hK => ?_)
        obtain rfl := l9 (hne 9 (by kernel_rfl))
        go_simp
        exact hK _ _ ((HI.out _ _ _).2 ⟨v9, v10, v11, v12, v13, v14, v15, v8, v16, _, v6, _, rfl, hW, Free.of_set (by decide) l0, Free.of_set (by decide) l1, Free.of_set (by decide) l2, Free.of_set (by decide) l3, Free.of_set (by decide) l4, Free.of_set (by decide) l5, Free.of_set (by decide) l6, Free.of_set (by decide) l7, Free.of_set (by decide) l8, fun _ => rfl, fun _ => rfl, fun e => by obtain ⟨bn, cn, dn, q1, q2, q3, q4⟩ := ln (Free.back (by decide) e); exact ⟨bn, cn, dn, q1, q2, q3, fun e2 => q4 (Free.back (by decide) e2)⟩, fun e => Free.fore (by decide) (lp (Free.back (by decide) e))⟩)
    case s3 =>
      intro listed aq W1 hall hsz hv
      obtain ⟨v9, v10, v11, v12, v13, v14, v15, v8, v16, v17, v6, v7, rfl, hW, l0, l1, l2, l3, l4, l5, l6, l7, l8, l9, l12, ln, lp⟩ := (HI.out _ _ _).1 hv
      clear hv HI
      obtain ⟨bn, cn, dn, rfl, hbn, hSn, q4⟩ := ln (Free.listed_of hall hsz 10 (by decide))
      obtain ⟨rfl, rfl⟩ := q4 (Free.listed_of hall hsz 11 (by decide))
      clear ln lp
      obtain rfl := l0 (Free.listed_of hall hsz 0 (by decide))
      obtain rfl := l1 (Free.listed_of hall hsz 1 (by decide))
      obtain rfl := l2 (Free.listed_of hall hsz 2 (by decide))
      obtain rfl := l3 (Free.listed_of hall hsz 3 (by decide))
      obtain rfl := l4 (Free.listed_of hall hsz 4 (by decide))
      obtain rfl := l5 (Free.listed_of hall hsz 5 (by decide))
      obtain rfl := l6 (Free.listed_of hall hsz 6 (by decide))
      obtain rfl := l7 (Free.listed_of hall hsz 7 (by decide))
      obtain rfl := l8 (Free.listed_of hall hsz 8 (by decide))
      obtain rfl := l9 (Free.listed_of hall hsz 9 (by decide))
      obtain rfl := l12 (Free.listed_of hall hsz 12 (by decide))
      clear hall hsz
      have hF := hF0.add hW hSn hbn
      replace hY := hY.step hW
      replace hQ := hQ.step hW
      have hX := hF.at 0 rfl
      have hX4 := hF.at 1 rfl
      clear hF0 hW hSn hbn hV hu hs yu
      go_wp2
      obtain ⟨Inv, hInv⟩ : ∃ Inv : Array Bool → Act → World → Prop, ∀ listed aq W', Inv listed aq W' ↔ (∃ v22 v23 v24 v25 v26 v27 v28 v29 v30 v5 : Value, aq = { tmps := #[Value.int IntKind.i64 ↑i, Value.pointer (some { block := B0, off := 0 }), Value.pointer (some { block := B1, off := 0 }), undef, Value.pointer (some { block := Bx, off := 0 }), v5, Value.pointer (some { block := bn, off := 0 }), errV R.snd.snd, Value.tuple #[Value.agg #[Value.int IntKind.i64 R.fst, Value.int IntKind.i64 R.snd.fst], errV R.snd.snd], Value.pointer (some { block := B0, off := 0 }), Value.slice (some { block := b1, off := off1 }) s.length cap, Value.int IntKind.i64 ↑i, Value.pointer (some { block := b1, off := off1 + i }), Value.slice a4 (Um.nx s i).length cap4, Value.slice a3 b.length cap3, Value.tuple #[Value.agg #[Value.int IntKind.i64 R.fst, Value.int IntKind.i64 R.snd.fst], errV R.snd.snd], Value.agg #[Value.int IntKind.i64 R.fst, Value.int IntKind.i64 R.snd.fst], errV R.snd.snd, errV R.snd.snd, Value.bool false, undef, undef, v22, v23, v24, v25, v26, v27, v28, v29, v30], defers := [] } ∧ (∃ W2 : World, Below W1.heap.size W1 W2 ∧ W' = if listed.getD 9 false = true then ((W2.setCell ⟨Bx, 0, none⟩ (.int .i64 A.1)).setCell ⟨Bx, 1, none⟩ (.int .i64 A.2.1)) else W2) ∧ (listed.getD 0 false = true → v22 = .agg #[.int .i64 R.1, .int .i64 R.2.1]) ∧ (listed.getD 1 false = true → v23 = .pointer (some ⟨B0, 1, none⟩)) ∧ (listed.getD 2 false = true → v24 = .slice (some ⟨b2, off2, none⟩) p.length cap2) ∧ (listed.getD 3 false = true → v25 = Value.int IntKind.i64 ↑i) ∧ (listed.getD 4 false = true → v26 = .pointer (some ⟨b2, off2 + i * 2, none⟩)) ∧ (listed.getD 5 false = true → v27 = .agg #[.int .i64 D0, .int .i64 D1]) ∧ (listed.getD 6 false = true → v28 = (.tuple #[.agg #[.int .i64 A.1, .int .i64 A.2.1], errV A.2.2])) ∧ (listed.getD 7 false = true → v29 = .agg #[.int .i64 A.1, .int .i64 A.2.1]) ∧ (listed.getD 8 false = true → v30 = errV A.2.2) ∧ (listed.getD 10 false = true → v5 = errV A.2.2) ∧ (listed.getD 9 false = true → listed.getD 0 false = true ∧ listed.getD 2 false = true ∧ listed.getD 5 false = true ∧ listed.getD 6 false = true)) := ⟨_, fun _ _ _ => Iff.rfl⟩
      have HI := hid hInv
      clear hInv
      refine Free.region hmx (by kernel_rfl) Inv ?s1 ?s2 ?s3
      case s1 =>
        exact (HI.out _ _ _).2 ⟨undef, undef, undef, undef, undef, undef, undef, undef, undef, Value.nilIface, rfl, ⟨_, (Below.refl _ _).drew, by rw [Free.none_yet]; rfl⟩, Free.not_yet, Free.not_yet, Free.not_yet, Free.not_yet, Free.not_yet, Free.not_yet, Free.not_yet, Free.not_yet, Free.not_yet, Free.not_yet, Free.not_yet⟩
      case s2 =>
        intro i listed aq W1 hi hne hnl hsz hv
        obtain ⟨v22, v23, v24, v25, v26, v27, v28, v29, v30, v5, rfl, ⟨W2, hW, hWW⟩, l0, l1, l2, l3, l4, l5, l6, l7, l8, l10, l9⟩ := (HI.out _ _ _).1 hv
        have HWW := hid hWW
        clear hv hWW
        replace hi : i < 11 := hi
        replace hsz : listed.size = 11 := hsz
        rcases (by omega : i = 0 ∨ i = 1 ∨ i = 2 ∨ i = 3 ∨ i = 4 ∨ i = 5 ∨ i = 6 ∨ i = 7 ∨ i = 8 ∨ i = 9 ∨ i = 10) with rfl | rfl | rfl | rfl | rfl | rfl | rfl | rfl | rfl | rfl | rfl
        · have hf := Free.off hnl
          have hs : listed.getD 9 false = false := by
            cases e : listed.getD 9 false
            · rfl
            · rw [(l9 e).1] at hf; cases hf
          have hWW := HWW.out
          rw [hs] at hWW
          obtain rfl : W1 = W2 := hWW
          clear HWW
          have z1 := (hX.step hW).lo
          have z2 := (hX.step hW).hi
          refine Free.op rfl rfl (fun K hK => ?_)
          go_simp
          exact hK _ _ ((HI.out _ _ _).2 ⟨_, v23, v24, v25, v26, v27, v28, v29, v30, v5, rfl, ⟨W1, hW, by rw [Free.set_other (by decide), hs]; rfl⟩, fun _ => rfl, Free.of_set (by decide) l1, Free.of_set (by decide) l2, Free.of_set (by decide) l3, Free.of_set (by decide) l4, Free.of_set (by decide) l5, Free.of_set (by decide) l6, Free.of_set (by decide) l7, Free.of_set (by decide) l8, Free.of_set (by decide) l10, fun e => by rw [Free.set_other (by decide), hs] at e; cases e⟩)
        · refine Free.op rfl rfl (fun K hK => ?_)
          go_simp
          exact hK _ _ ((HI.out _ _ _).2 ⟨v22, _, v24, v25, v26, v27, v28, v29, v30, v5, rfl, ⟨W2, hW, by rw [Free.set_other (by decide)]; exact HWW.out⟩, Free.of_set (by decide) l0, fun _ => rfl, Free.of_set (by decide) l2, Free.of_set (by decide) l3, Free.of_set (by decide) l4, Free.of_set (by decide) l5, Free.of_set (by decide) l6, Free.of_set (by decide) l7, Free.of_set (by decide) l8, Free.of_set (by decide) l10, fun e => by rw [Free.set_other (by decide)] at e; rw [Free.set_other (by decide), Free.set_other (by decide), Free.set_other (by decide), Free.set_other (by decide)]; exact l9 e⟩)
        · have hf := Free.off hnl
          have hs : listed.getD 9 false = false := by
            cases e : listed.getD 9 false
            · rfl
            · rw [(l9 e).2.1] at hf; cases hf
          have hWW := HWW.out
          rw [hs] at hWW
          obtain rfl : W1 = W2 := hWW
          clear HWW
          have z1 := (hY.step hW).c1
          refine Free.op rfl rfl (fun K hK => ?_)
          obtain rfl := l1 (hne 1 (by kernel_rfl))
          go_simp
          exact hK _ _ ((HI.out _ _ _).2 ⟨v22, _, _, v25, v26, v27, v28, v29, v30, v5, rfl, ⟨W1, hW, by rw [Free.set_other (by decide), hs]; rfl⟩, Free.of_set (by decide) l0, fun _ => rfl, fun _ => rfl, Free.of_set (by decide) l3, Free.of_set (by decide) l4, Free.of_set (by decide) l5, Free.of_set (by decide) l6, Free.of_set (by decide) l7, Free.of_set (by decide) l8, Free.of_set (by decide) l10, fun e => by rw [Free.set_other (by decide), hs] at e; cases e⟩)
        · refine Free.op rfl rfl (fun K hK => ?_)
          go_simp
          exact hK _ _ ((HI.out _ _ _).2 ⟨v22, v23, v24, _, v26, v27, v28, v29, v30, v5, rfl, ⟨W2, hW, by rw [Free.set_other (by decide)]; exact HWW.out⟩, Free.of_set (by decide) l0, Free.of_set (by decide) l1, Free.of_set (by decide) l2, fun _ => rfl, Free.of_set (by decide) l4, Free.of_set (by decide) l5, Free.of_set (by decide) l6, Free.of_set (by decide) l7, Free.of_set (by decide) l8, Free.of_set (by decide) l10, fun e => by rw [Free.set_other (by decide)] at e; rw [Free.set_other (by decide), Free.set_other (by decide), Free.set_other (by decide), Free.set_other (by decide)]; exact l9 e⟩)
        · refine Free.op rfl rfl (fun K hK => ?_)
          obtain rfl := l2 (hne 2 (by kernel_rfl))
          obtain rfl := l3 (hne 3 (by kernel_rfl))
          go_simp
          exact hK _ _ ((HI.out _ _ _).2 ⟨v22, v23, _, _, _, v27, v28, v29, v30, v5, rfl, ⟨W2, hW, by rw [Free.set_other (by decide)]; exact HWW.out⟩, Free.of_set (by decide) l0, Free.of_set (by decide) l1, fun _ => rfl, fun _ => rfl, fun _ => rfl, Free.of_set (by decide) l5, Free.of_set (by decide) l6, Free.of_set (by decide) l7, Free.of_set (by decide) l8, Free.of_set (by decide) l10, fun e => by rw [Free.set_other (by decide)] at e; rw [Free.set_other (by decide), Free.set_other (by decide), Free.set_other (by decide), Free.set_other (by decide)]; exact l9 e⟩)
        · have hf := Free.off hnl
          have hs : listed.getD 9 false = false := by
            cases e : listed.getD 9 false
            · rfl
            · rw [(l9 e).2.2.1] at hf; cases hf
          have hWW := HWW.out
          rw [hs] at hWW
          obtain rfl : W1 = W2 := hWW
          clear HWW
          have z1 := (hQ.step hW).lo i HP.out rfl
          have z2 := (hQ.step hW).hi i HP.out rfl
          refine Free.op rfl rfl (fun K hK => ?_)
          obtain rfl := l4 (hne 4 (by kernel_rfl))
          go_simp
          exact hK _ _ ((HI.out _ _ _).2 ⟨v22, v23, v24, v25, _, _, v28, v29, v30, v5, rfl, ⟨W1, hW, by rw [Free.set_other (by decide), hs]; rfl⟩, Free.of_set (by decide) l0, Free.of_set (by decide) l1, Free.of_set (by decide) l2, Free.of_set (by decide) l3, fun _ => rfl, fun _ => rfl, Free.of_set (by decide) l6, Free.of_set (by decide) l7, Free.of_set (by decide) l8, Free.of_set (by decide) l10, fun e => by rw [Free.set_other (by decide), hs] at e; cases e⟩)
        · have hf := Free.off hnl
          have hs : listed.getD 9 false = false := by
            cases e : listed.getD 9 false
            · rfl
            · rw [(l9 e).2.2.2] at hf; cases hf
          have hWW := HWW.out
          rw [hs] at hWW
          obtain rfl : W1 = W2 := hWW
          clear HWW
          refine Free.op rfl rfl (fun K hK => ?_)
          obtain rfl := l0 (hne 0 (by kernel_rfl))
          obtain rfl := l5 (hne 5 (by kernel_rfl))
          go_wp2_with (go_at_call 37; refine (HD _).out.mono ?_; rintro e W3 ⟨rfl, hb⟩)
          exact (HI.out _ _ _).2 ⟨_, v23, v24, v25, v26, _, _, v29, v30, v5, rfl, ⟨_, hW.trans (hb.mono hW.size), by rw [Free.set_other (by decide), hs]; rfl⟩, fun _ => rfl, Free.of_set (by decide) l1, Free.of_set (by decide) l2, Free.of_set (by decide) l3, Free.of_set (by decide) l4, fun _ => rfl, fun _ => rfl, Free.of_set (by decide) l7, Free.of_set (by decide) l8, Free.of_set (by decide) l10, fun e => by rw [Free.set_other (by decide), hs] at e; cases e⟩
        · refine Free.op rfl rfl (fun K hK => ?_)
          obtain rfl := l6 (hne 6 (by kernel_rfl))
          go_simp
          exact hK _ _ ((HI.out _ _ _).2 ⟨v22, v23, v24, v25, v26, v27, _, _, v30, v5, rfl, ⟨W2, hW, by rw [Free.set_other (by decide)]; exact HWW.out⟩, Free.of_set (by decide) l0, Free.of_set (by decide) l1, Free.of_set (by decide) l2, Free.of_set (by decide) l3, Free.of_set (by decide) l4, Free.of_set (by decide) l5, fun _ => rfl, fun _ => rfl, Free.of_set (by decide) l8, Free.of_set (by decide) l10, fun e => by rw [Free.set_other (by decide)] at e; rw [Free.set_other (by decide), Free.set_other (by decide), Free.set_other (by decide), Free.set_other (by decide)]; exact l9 e⟩)
        · refine Free.op rfl rfl (fun K hK => ?_)
          obtain rfl := l6 (hne 6 (by kernel_rfl))
          go_simp
          exact hK _ _ ((HI.out _ _ _).2 ⟨v22, v23, v24, v25, v26, v27, _, v29, _, v5, rfl, ⟨W2, hW, by rw [Free.set_other (by decide)]; exact HWW.out⟩, Free.of_set (by decide) l0, Free.of_set (by decide) l1, Free.of_set (by decide) l2, Free.of_set (by decide) l3, Free.of_set (by decide) l4, Free.of_set (by decide) l5, fun _ => rfl, Free.of_set (by decide) l7, fun _ => rfl, Free.of_set (by decide) l10, fun e => by rw [Free.set_other (by decide)] at e; rw [Free.set_other (by decide), Free.set_other (by decide), Free.set_other (by decide), Free.set_other (by decide)]; exact l9 e⟩)
        · have hs := Free.off hnl
          have N := hid (And.intro (hne 0 (by kernel_rfl)) (And.intro (hne 2 (by kernel_rfl)) (And.intro (hne 5 (by kernel_rfl)) (hne 6 (by kernel_rfl)))))
          have hWW := HWW.out
          rw [hs] at hWW
          obtain rfl : W1 = W2 := hWW
          clear HWW
          have z1 := (hX4.step hW).fl
          have z2 := (hX4.step hW).fh
          have z3 := (hX4.step hW).lo
          have z4 := (hX4.step hW).hi
          refine Free.op rfl rfl (fun K hK => ?_)
          obtain rfl := l7 (hne 7 (by kernel_rfl))
          go_simp
          exact hK _ _ ((HI.out _ _ _).2 ⟨v22, v23, v24, v25, v26, v27, v28, _, v30, v5, rfl, ⟨W1, hW, by rw [Free.set_same (by omega)]; rfl⟩, Free.of_set (by decide) l0, Free.of_set (by decide) l1, Free.of_set (by decide) l2, Free.of_set (by decide) l3, Free.of_set (by decide) l4, Free.of_set (by decide) l5, Free.of_set (by decide) l6, fun _ => rfl, Free.of_set (by decide) l8, Free.of_set (by decide) l10, fun _ => by rw [Free.set_other (by decide), Free.set_other (by decide), Free.set_other (by decide), Free.set_other (by decide)]; exact N.out⟩)
        · refine Free.op rfl rfl (fun K hK => ?_)
          obtain rfl := l8 (hne 8 (by kernel_rfl))
          go_simp
          exact hK _ _ ((HI.out _ _ _).2 ⟨v22, v23, v24, v25, v26, v27, v28, v29, _, _, rfl, ⟨W2, hW, by rw [Free.set_other (by decide)]; exact HWW.out⟩, Free.of_set (by decide) l0, Free.of_set (by decide) l1, Free.of_set (by decide) l2, Free.of_set (by decide) l3, Free.of_set (by decide) l4, Free.of_set (by decide) l5, Free.of_set (by decide) l6, Free.of_set (by decide) l7, fun _ => rfl, fun _ => rfl, fun e => by rw [Free.set_other (by decide)] at e; rw [Free.set_other (by decide), Free.set_other (by decide), Free.set_other (by decide), Free.set_other (by decide)]; exact l9 e⟩)
      case s3 =>
        intro listed aq W1 hall hsz hv
        obtain ⟨v22, v23, v24, v25, v26, v27, v28, v29, v30, v5, rfl, ⟨W2, hW, hWW⟩, l0, l1, l2, l3, l4, l5, l6, l7, l8, l10, l9⟩ := (HI.out _ _ _).1 hv
        clear hv HI
        rw [Free.listed_of hall hsz 9 (by decide)] at hWW
        obtain rfl : W1 = ((W2.setCell ⟨Bx, 0, none⟩ (.int .i64 A.1)).setCell ⟨Bx, 1, none⟩ (.int .i64 A.2.1)) := hWW
        obtain rfl := l0 (Free.listed_of hall hsz 0 (by decide))
        obtain rfl := l1 (Free.listed_of hall hsz 1 (by decide))
        obtain rfl := l2 (Free.listed_of hall hsz 2 (by decide))
        obtain rfl := l3 (Free.listed_of hall hsz 3 (by decide))
        obtain rfl := l4 (Free.listed_of hall hsz 4 (by decide))
        obtain rfl := l5 (Free.listed_of hall hsz 5 (by decide))
        obtain rfl := l6 (Free.listed_of hall hsz 6 (by decide))
        obtain rfl := l7 (Free.listed_of hall hsz 7 (by decide))
        obtain rfl := l8 (Free.listed_of hall hsz 8 (by decide))
        obtain rfl := l10 (Free.listed_of hall hsz 10 (by decide))
        clear  l9 hall hsz
        replace hF := (hF.step hW).put 1 rfl A.1 A.2.1 rfl
        clear hW hX hQ hY hX4
        have y6 := (hF.at 1 rfl).lo
        have y7 := (hF.at 1 rfl).hi
        go_wp2
        refine bodyPost_ret (by simp [results, Tryz.results35, go_sem, y6, y7]; try rfl) rfl ?_
        rw [HM.out]
        exact ⟨rfl, hF.below⟩

  · have HM0 := hid (HM2.out hc)
    have e4 : Um.frR (Um.nx s i) b = (0, 0, 4) := HFT.out.resolve_left hc
    have HM : Hid (Um.sideR s p b i = (0, 0, (Um.frR (Um.nx s i) b).2.2)) := by rw [HM0.out, e4]; exact hid rfl
    have HR := HRA
    clear HM1 HM2 HCK HFT HRA HM0 e4 HPC
    generalize Um.frR (Um.nx s i) b = R at *
    have kR : (R.2.2 != 0) = true := by simpa using hc
    clear hc hQ HP
    go_enter Tryz.func35, Tryz.ntmps35
    go_wp2
    generalize w.heap.size = Bx at *
    generalize w.alloc (.cells #[.int .i64 0, .int .i64 0] 49) = W at *
    obtain ⟨Inv, hInv⟩ : ∃ Inv : Array Bool → Act → World → Prop, ∀ listed aq W', Inv listed aq W' ↔ (∃ v9 v10 v11 v12 v13 v14 v15 v8 v16 v17 v6 v7 : Value, aq = { tmps := #[Value.int IntKind.i64 ↑i, Value.pointer (some { block := B0, off := 0 }), Value.pointer (some { block := B1, off := 0 }), undef, Value.pointer (some { block := Bx, off := 0 }), Value.nilIface, v6, v7, v8, v9, v10, v11, v12, v13, v14, v15, v16, v17, undef, undef, undef, undef, undef, undef, undef, undef, undef, undef, undef, undef, undef], defers := [] } ∧ Below (W).heap.size (W) W' ∧ (listed.getD 0 false = true → v9 = .pointer (some ⟨B0, 0, none⟩)) ∧ (listed.getD 1 false = true → v10 = .slice (some ⟨b1, off1, none⟩) s.length cap) ∧ (listed.getD 2 false = true → v11 = Value.int IntKind.i64 ↑i) ∧ (listed.getD 3 false = true → v12 = .pointer (some ⟨b1, off1 + i, none⟩)) ∧ (listed.getD 4 false = true → v13 = .slice a4 (Um.nx s i).length cap4) ∧ (listed.getD 5 false = true → v14 = .slice a3 b.length cap3) ∧ (listed.getD 6 false = true → v15 = (.tuple #[.agg #[.int .i64 R.1, .int .i64 R.2.1], errV R.2.2])) ∧ (listed.getD 7 false = true → v8 = (.tuple #[.agg #[.int .i64 R.1, .int .i64 R.2.1], errV R.2.2])) ∧ (listed.getD 8 false = true → v16 = .agg #[.int .i64 R.1, .int .i64 R.2.1]) ∧ (listed.getD 9 false = true → v17 = errV R.2.2) ∧ (listed.getD 12 false = true → v7 = errV R.2.2) ∧ (listed.getD 10 false = true → ∃ (bn : Nat) (cn dn : Int), v6 = .pointer (some ⟨bn, 0, none⟩) ∧ (W).heap.size ≤ bn ∧ Sp W' bn cn dn ∧ (listed.getD 11 false = true → cn = R.1 ∧ dn = R.2.1)) ∧ (listed.getD 11 false = true → listed.getD 10 false = true)) := ⟨_, fun _ _ _ => Iff.rfl⟩
    have HI := hid hInv
    clear hInv
    refine Free.region hmx (by kernel_rfl) Inv ?s1 ?s2 ?s3
    case s1 =>
      exact (HI.out _ _ _).2 ⟨undef, undef, undef, undef, undef, undef, undef, undef, undef, undef, undef, undef, rfl, (Below.refl _ _).drew, Free.not_yet, Free.not_yet, Free.not_yet, Free.not_yet, Free.not_yet, Free.not_yet, Free.not_yet, Free.not_yet, Free.not_yet, Free.not_yet, Free.not_yet, Free.not_yet, Free.not_yet⟩
    case s2 =>
      intro i listed aq W1 hix hne hnl hsz hv
      obtain ⟨v9, v10, v11, v12, v13, v14, v15, v8, v16, v17, v6, v7, rfl, hW, l0, l1, l2, l3, l4, l5, l6, l7, l8, l9, l12, ln, lp⟩ := (HI.out _ _ _).1 hv
      clear hv
      replace hix : i < 13 := hix
      replace hsz : listed.size = 13 := hsz
      rcases (by omega : i = 0 ∨ i = 1 ∨ i = 2 ∨ i = 3 ∨ i = 4 ∨ i = 5 ∨ i = 6 ∨ i = 7 ∨ i = 8 ∨ i = 9 ∨ i = 10 ∨ i = 11 ∨ i = 12) with rfl | rfl | rfl | rfl | rfl | rfl | rfl | rfl | rfl | rfl | rfl | rfl | rfl
      · refine Free.op rfl rfl (fun K hK => ?_)
        go_simp
        exact hK _ _ ((HI.out _ _ _).2 ⟨_, v10, v11, v12, v13, v14, v15, v8, v16, v17, v6, v7, rfl, hW, fun _ => rfl, Free.of_set (by decide) l1, Free.of_set (by decide) l2, Free.of_set (by decide) l3, Free.of_set (by decide) l4, Free.of_set (by decide) l5, Free.of_set (by decide) l6, Free.of_set (by decide) l7, Free.of_set (by decide) l8, Free.of_set (by decide) l9, Free.of_set (by decide) l12, fun e => by obtain ⟨bn, cn, dn, q1, q2, q3, q4⟩ := ln (Free.back (by decide) e); exact ⟨bn, cn, dn, q1, q2, q3, fun e2 => q4 (Free.back (by decide) e2)⟩, fun e => Free.fore (by decide) (lp (Free.back (by decide) e))⟩)
      · have z := (hY.step hW).c0
        refine Free.op rfl rfl (fun K hK => ?_)
        obtain rfl := l0 (hne 0 (by kernel_rfl))
        go_simp
        exact hK _ _ ((HI.out _ _ _).2 ⟨_, _, v11, v12, v13, v14, v15, v8, v16, v17, v6, v7, rfl, hW, fun _ => rfl, fun _ => rfl, Free.of_set (by decide) l2, Free.of_set (by decide) l3, Free.of_set (by decide) l4, Free.of_set (by decide) l5, Free.of_set (by decide) l6, Free.of_set (by decide) l7, Free.of_set (by decide) l8, Free.of_set (by decide) l9, Free.of_set (by decide) l12, fun e => by obtain ⟨bn, cn, dn, q1, q2, q3, q4⟩ := ln (Free.back (by decide) e); exact ⟨bn, cn, dn, q1, q2, q3, fun e2 => q4 (Free.back (by decide) e2)⟩, fun e => Free.fore (by decide) (lp (Free.back (by decide) e))⟩)
      · refine Free.op rfl rfl (fun K hK => ?_)
        go_simp
        exact hK _ _ ((HI.out _ _ _).2 ⟨v9, v10, _, v12, v13, v14, v15, v8, v16, v17, v6, v7, rfl, hW, Free.of_set (by decide) l0, Free.of_set (by decide) l1, fun _ => rfl, Free.of_set (by decide) l3, Free.of_set (by decide) l4, Free.of_set (by decide) l5, Free.of_set (by decide) l6, Free.of_set (by decide) l7, Free.of_set (by decide) l8, Free.of_set (by decide) l9, Free.of_set (by decide) l12, fun e => by obtain ⟨bn, cn, dn, q1, q2, q3, q4⟩ := ln (Free.back (by decide) e); exact ⟨bn, cn, dn, q1, q2, q3, fun e2 => q4 (Free.back (by decide) e2)⟩, fun e => Free.fore (by decide) (lp (Free.back (by decide) e))⟩)
      · refine Free.op rfl rfl (fun K hK => ?_)
        obtain rfl := l1 (hne 1 (by kernel_rfl))
        obtain rfl := l2 (hne 2 (by kernel_rfl))
        go_simp
        exact hK _ _ ((HI.out _ _ _).2 ⟨v9, _, _, _, v13, v14, v15, v8, v16, v17, v6, v7, rfl, hW, Free.of_set (by decide) l0, fun _ => rfl, fun _ => rfl, fun _ => rfl, Free.of_set (by decide) l4, Free.of_set (by decide) l5, Free.of_set (by decide) l6, Free.of_set (by decide) l7, Free.of_set (by decide) l8, Free.of_set (by decide) l9, Free.of_set (by decide) l12, fun e => by obtain ⟨bn, cn, dn, q1, q2, q3, q4⟩ := ln (Free.back (by decide) e); exact ⟨bn, cn, dn, q1, q2, q3, fun e2 => q4 (Free.back (by decide) e2)⟩, fun e => Free.fore (by decide) (lp (Free.back (by decide) e))⟩)
      · have z := (hW.cell (p := ⟨b1, off1 + i, none⟩) hlb).trans yu
        refine Free.op rfl rfl (fun K hK => ?_)
        obtain rfl := l3 (hne 3 (by kernel_rfl))
        go_simp
        exact hK _ _ ((HI.out _ _ _).2 ⟨v9, v10, v11, _, _, v14, v15, v8, v16, v17, v6, v7, rfl, hW, Free.of_set (by decide) l0, Free.of_set (by decide) l1, Free.of_set (by decide) l2, fun _ => rfl, fun _ => rfl, Free.of_set (by decide) l5, Free.of_set (by decide) l6, Free.of_set (by decide) l7, Free.of_set (by decide) l8, Free.of_set (by decide) l9, Free.of_set (by decide) l12, fun e => by obtain ⟨bn, cn, dn, q1, q2, q3, q4⟩ := ln (Free.back (by decide) e); exact ⟨bn, cn, dn, q1, q2, q3, fun e2 => q4 (Free.back (by decide) e2)⟩, fun e => Free.fore (by decide) (lp (Free.back (by decide) e))⟩)
      · have z := (hV.step hW).c
        refine Free.op rfl rfl (fun K hK => ?_)
        go_simp
        exact hK _ _ ((HI.out _ _ _).2 ⟨v9, v10, v11, v12, v13, _, v15, v8, v16, v17, v6, v7, rfl, hW, Free.of_set (by decide) l0, Free.of_set (by decide) l1, Free.of_set (by decide) l2, Free.of_set (by decide) l3, Free.of_set (by decide) l4, fun _ => rfl, Free.of_set (by decide) l6, Free.of_set (by decide) l7, Free.of_set (by decide) l8, Free.of_set (by decide) l9, Free.of_set (by decide) l12, fun e => by obtain ⟨bn, cn, dn, q1, q2, q3, q4⟩ := ln (Free.back (by decide) e); exact ⟨bn, cn, dn, q1, q2, q3, fun e2 => q4 (Free.back (by decide) e2)⟩, fun e => Free.fore (by decide) (lp (Free.back (by decide) e))⟩)
      · refine Free.op rfl rfl (fun K hK => ?_)
        obtain rfl := l4 (hne 4 (by kernel_rfl))
        obtain rfl := l5 (hne 5 (by kernel_rfl))
        go_wp2_with (go_at_call 36; refine (HR _ (hu.step hW) (hs.step hW)).out.mono ?_; rintro e W3 ⟨rfl, hb⟩)
        exact (HI.out _ _ _).2 ⟨v9, v10, v11, v12, _, _, _, v8, v16, v17, v6, v7, rfl, hW.trans (hb.mono hW.size), Free.of_set (by decide) l0, Free.of_set (by decide) l1, Free.of_set (by decide) l2, Free.of_set (by decide) l3, fun _ => rfl, fun _ => rfl, fun _ => rfl, Free.of_set (by decide) l7, Free.of_set (by decide) l8, Free.of_set (by decide) l9, Free.of_set (by decide) l12, fun e => by obtain ⟨bn, cn, dn, q1, q2, q3, q4⟩ := ln (Free.back (by decide) e); exact ⟨bn, cn, dn, q1, q2, (q3.step hb), fun e2 => q4 (Free.back (by decide) e2)⟩, fun e => Free.fore (by decide) (lp (Free.back (by decide) e))⟩
      · refine Free.op rfl rfl (fun K hK => ?_)
        obtain rfl := l6 (hne 6 (by kernel_rfl))
        go_simp
        exact hK _ _ ((HI.out _ _ _).2 ⟨v9, v10, v11, v12, v13, v14, _, _, v16, v17, v6, v7, rfl, hW, Free.of_set (by decide) l0, Free.of_set (by decide) l1, Free.of_set (by decide) l2, Free.of_set (by decide) l3, Free.of_set (by decide) l4, Free.of_set (by decide) l5, fun _ => rfl, fun _ => rfl, Free.of_set (by decide) l8, Free.of_set (by decide) l9, Free.of_set (by decide) l12, fun e => by obtain ⟨bn, cn, dn, q1, q2, q3, q4⟩ := ln (Free.back (by decide) e); exact ⟨bn, cn, dn, q1, q2, q3, fun e2 => q4 (Free.back (by decide) e2)⟩, fun e => Free.fore (by decide) (lp (Free.back (by decide) e))⟩)
      · refine Free.op rfl rfl (fun K hK => ?_)
        obtain rfl := l7 (hne 7 (by kernel_rfl))
        go_simp
        exact hK _ _ ((HI.out _ _ _).2 ⟨v9, v10, v11, v12, v13, v14, v15, _, _, v17, v6, v7, rfl, hW, Free.of_set (by decide) l0, Free.of_set (by decide) l1, Free.of_set (by decide) l2, Free.of_set (by decide) l3, Free.of_set (by decide) l4, Free.of_set (by decide) l5, Free.of_set (by decide) l6, fun _ => rfl, fun _ => rfl, Free.of_set (by decide) l9, Free.of_set (by decide) l12, fun e => by obtain ⟨bn, cn, dn, q1, q2, q3, q4⟩ := ln (Free.back (by decide) e); exact ⟨bn, cn, dn, q1, q2, q3, fun e2 => q4 (Free.back (by decide) e2)⟩, fun e => Free.fore (by decide) (lp (Free.back (by decide) e))⟩)
      · refine Free.op rfl rfl (fun K hK => ?_)
        obtain rfl := l7 (hne 7 (by kernel_rfl))
        go_simp
        exact hK _ _ ((HI.out _ _ _).2 ⟨v9, v10, v11, v12, v13, v14, v15, _, v16, _, v6, v7, rfl, hW, Free.of_set (by decide) l0, Free.of_set (by decide) l1, Free.of_set (by decide) l2, Free.of_set (by decide) l3, Free.of_set (by decide) l4, Free.of_set (by decide) l5, Free.of_set (by decide) l6, fun _ => rfl, Free.of_set (by decide) l8, fun _ => rfl, Free.of_set (by decide) l12, fun e => by obtain ⟨bn, cn, dn, q1, q2, q3, q4⟩ := ln (Free.back (by decide) e); exact ⟨bn, cn, dn, q1, q2, q3, fun e2 => q4 (Free.back (by decide) e2)⟩, fun e => Free.fore (by decide) (lp (Free.back (by decide) e))⟩)
      · have hs : listed.getD 11 false = false := by
          cases e : listed.getD 11 false
          · rfl
          · rw [Free.off hnl] at lp; cases lp e
        refine Free.op rfl rfl (fun K hK => ?_)
        go_simp
        exact hK _ _ ((HI.out _ _ _).2 ⟨v9, v10, v11, v12, v13, v14, v15, v8, v16, v17, _, v7, rfl, hW.alloc hW.size _, Free.of_set (by decide) l0, Free.of_set (by decide) l1, Free.of_set (by decide) l2, Free.of_set (by decide) l3, Free.of_set (by decide) l4, Free.of_set (by decide) l5, Free.of_set (by decide) l6, Free.of_set (by decide) l7, Free.of_set (by decide) l8, Free.of_set (by decide) l9, Free.of_set (by decide) l12, fun _ => ⟨_, _, _, rfl, hW.size, Sp.new _ _ _, fun e => by rw [Free.set_other (by decide), hs] at e; cases e⟩, fun e => by rw [Free.set_other (by decide), hs] at e; cases e⟩)
      · have N := hid (hne 10 (by kernel_rfl))
        obtain ⟨bn, cn, dn, q1, q2, q3, q4⟩ := ln N.out
        subst q1
        have y1 := q3.fl
        have y2 := q3.fh
        have y3 := q3.lo
        have y4 := q3.hi
        refine Free.op rfl rfl (fun K hK => ?_)
        obtain rfl := l8 (hne 8 (by kernel_rfl))
        go_simp
        exact hK _ _ ((HI.out _ _ _).2 ⟨v9, v10, v11, v12, v13, v14, v15, v8, _, v17, _, v7, rfl, (hW.setCell q2 _).setCell q2 _, Free.of_set (by decide) l0, Free.of_set (by decide) l1, Free.of_set (by decide) l2, Free.of_set (by decide) l3, Free.of_set (by decide) l4, Free.of_set (by decide) l5, Free.of_set (by decide) l6, Free.of_set (by decide) l7, fun _ => rfl, Free.of_set (by decide) l9, Free.of_set (by decide) l12, fun _ => ⟨_, _, _, rfl, q2, q3.set _ _, fun _ => ⟨rfl, rfl⟩⟩, fun _ => Free.fore (by decide) N.out⟩)
      · refine Free.op rfl rfl (fun K hK => ?_)
        obtain rfl := l9 (hne 9 (by kernel_rfl))
        go_simp
        exact hK _ _ ((HI.out _ _ _).2 ⟨v9, v10, v11, v12, v13, v14, v15, v8, v16, _, v6, _, rfl, hW, Free.of_set (by decide) l0, Free.of_set (by decide) l1, Free.of_set (by decide) l2, Free.of_set (by decide) l3, Free.of_set (by decide) l4, Free.of_set (by decide) l5, Free.of_set (by decide) l6, Free.of_set (by decide) l7, Free.of_set (by decide) l8, fun _ => rfl, fun _ => rfl, fun e => by obtain ⟨bn, cn, dn, q1, q2, q3, q4⟩ := ln (Free.back (by decide) e); exact ⟨bn, cn, dn, q1, q2, q3, fun e2 => q4 (Free.back (by decide) e2)⟩, fun e => Free.fore (by decide) (lp (Free.back (by decide) e))⟩)
    case s3 =>
      intro listed aq W1 hall hsz hv
      obtain ⟨v9, v10, v11, v12, v13, v14, v15, v8, v16, v17, v6, v7, rfl, hW, l0, l1, l2, l3, l4, l5, l6, l7, l8, l9, l12, ln, lp⟩ := (HI.out _ _ _).1 hv
      clear hv HI
      obtain ⟨bn, cn, dn, rfl, hbn, hSn, q4⟩ := ln (Free.listed_of hall hsz 10 (by decide))
      obtain ⟨rfl, rfl⟩ := q4 (Free.listed_of hall hsz 11 (by decide))
      clear ln lp
      obtain rfl := l0 (Free.listed_of hall hsz 0 (by decide))
      obtain rfl := l1 (Free.listed_of hall hsz 1 (by decide))
      obtain rfl := l2 (Free.listed_of hall hsz 2 (by decide))
      obtain rfl := l3 (Free.listed_of hall hsz 3 (by decide))
      obtain rfl := l4 (Free.listed_of hall hsz 4 (by decide))
      obtain rfl := l5 (Free.listed_of hall hsz 5 (by decide))
      obtain rfl := l6 (Free.listed_of hall hsz 6 (by decide))
      obtain rfl := l7 (Free.listed_of hall hsz 7 (by decide))
      obtain rfl := l8 (Free.listed_of hall hsz 8 (by decide))
      obtain rfl := l9 (Free.listed_of hall hsz 9 (by decide))
      obtain rfl := l12 (Free.listed_of hall hsz 12 (by decide))
      clear hall hsz
      have hF := hF0.add hW hSn hbn
      clear hF0 hW hSn hbn hY hV hu hs yu
      have y1 := (hF.at 1 rfl).fl
      have y2 := (hF.at 1 rfl).fh
      have y3 := (hF.at 1 rfl).lo
      have y4 := (hF.at 1 rfl).hi
      have y6 := (hF.at 1 rfl).r0
      have y7 := (hF.at 1 rfl).r1
      go_wp2
      refine bodyPost_ret (by simp [results, Tryz.results35, go_sem, y6, y7]; try rfl) rfl ?_
      rw [HM.out]
      exact ⟨rfl, (hF.put 1 rfl 0 0 rfl).below⟩


theorem info_spanE : (Tryz.prog.info? 49).map (fun i => (i.zero, i.size, i.bytes)) = some (some (.agg #[.int .i64 0, .int .i64 0]), 2, 16) := by kernel_rfl
/-- A row of n spans of one's own, of which the first are told. -/
structure RowS (w : World) (n B : Nat) (wr : World) (l : List (Int × Int)) : Prop where
  below : Below w.heap.size w wr
  most : l.length ≤ n
  row : wr.ownsRow w.heap.size 49 2 (.slice (some ⟨B, 0, none⟩) n n) n (cellsOf (l ++ List.replicate (n - l.length) (0, 0)))
theorem RowS.start {w w0 : World} {n B : Nat} (hg : w.grownBy w0 none)
    (hr : w0.ownsRow w.heap.size 49 2 (.slice (some ⟨B, 0, none⟩) n n) n (madeCells (Value.agg #[.int .i64 0, .int .i64 0]).cells (n * 2)).toList) : RowS w n B w0 [] := by
  refine ⟨(Below.refl w.heap.size w).grown hg (Nat.le_refl _) (fun j e => by cases e), Nat.zero_le _, ?_⟩
  have e : (Value.agg #[.int .i64 0, .int .i64 0]).cells = #[.int .i64 0, .int .i64 0] := rfl
  rw [e, cellsOf_zeros] at hr
  exact hr
theorem RowS.step {w wr w' : World} {n B : Nat} {l : List (Int × Int)} (h : RowS w n B wr l) (hb : Below wr.heap.size wr w') : RowS w n B w' l :=
  ⟨h.below.trans (hb.mono h.below.size), h.most, owns_keep h.row hb⟩
theorem RowS.lo0 {w wr : World} {n B : Nat} {l : List (Int × Int)} (h : RowS w n B wr l) {k : Nat} (hk : k = l.length) (hn : k < n) : wr.cell? ⟨B, k * 2, none⟩ = some (.int .i64 0) := by
  subst hk
  rw [h.row.cellAt (l.length * 2) (by omega), cellsOf_lo _ l.length (by rw [List.length_append, List.length_replicate]; omega), List.getElem?_append_right (Nat.le_refl _), Nat.sub_self]
  simp [show 0 < n - l.length by omega]
theorem RowS.hi0 {w wr : World} {n B : Nat} {l : List (Int × Int)} (h : RowS w n B wr l) {k : Nat} (hk : k = l.length) (hn : k < n) : wr.cell? ⟨B, k * 2 + 1, none⟩ = some (.int .i64 0) := by
  subst hk
  rw [h.row.cellAt (l.length * 2 + 1) (by omega), cellsOf_hi _ l.length (by rw [List.length_append, List.length_replicate]; omega), List.getElem?_append_right (Nat.le_refl _), Nat.sub_self]
  simp [show 0 < n - l.length by omega]
theorem RowS.ge {w wr : World} {n B : Nat} {l : List (Int × Int)} (h : RowS w n B wr l) : w.heap.size ≤ B := owns_from h.row B rfl
theorem set_next {α : Type} (l : List α) (z a : α) (m : Nat) : (l ++ List.replicate (m + 1) z).set l.length a = l ++ [a] ++ List.replicate m z := by
  rw [List.set_append_right _ _ (Nat.le_refl _), Nat.sub_self, List.replicate_succ, List.set_cons_zero, List.append_assoc]
  rfl
theorem RowS.put {w wr : World} {n B : Nat} {l : List (Int × Int)} (h : RowS w n B wr l) {k : Nat} (hk : k = l.length) (hn : k < n) (c d : Int) :
    RowS w n B ((wr.setCell ⟨B, k * 2, none⟩ (.int .i64 c)).setCell ⟨B, k * 2 + 1, none⟩ (.int .i64 d)) (l ++ [(c, d)]) := by
  subst hk
  have g := h.ge
  have s1 := (h.row.stored (l.length * 2) (.int .i64 c)).1
  have s2 := (s1.stored (l.length * 2 + 1) (.int .i64 d)).1
  refine ⟨(h.below.setCell (by show w.heap.size ≤ B; omega) _).setCell (by show w.heap.size ≤ B; omega) _, by rw [List.length_append]; show l.length + 1 ≤ n; omega, ?_⟩
  rw [cellsOf_set, show n - l.length = (n - (l.length + 1)) + 1 by omega, set_next] at s2
  rw [List.length_append]
  exact s2
theorem RowS.all {w wr : World} {n B : Nat} {l : List (Int × Int)} (h : RowS w n B wr l) (hl : l.length = n) : Ls wr.heap.size wr (.slice (some ⟨B, 0, none⟩) n n) l := by
  subst hl
  have := h.row
  rw [Nat.sub_self, List.replicate_zero, List.append_nil] at this
  exact ls_owns this
theorem next_stop {s : List (List Um.Tm)} {p b : List (Int × Int)} {k : Nat} (hk : k < s.length) (h : ¬ (Um.sideR s p b k).2.2 = 0) : Um.behR s p b = ([], (Um.sideR s p b k).2.2) := by
  have e := (Um.side_fault s p b k).resolve_left h
  rw [e]
  exact Um.nextN_bad hk h
theorem next_go {s : List (List Um.Tm)} {p b : List (Int × Int)} {k : Nat} (h : (Um.nextN s p b k).2 = 0) (h1 : (Um.sideR s p b k).2.2 = 0) : Um.nextN s p b (k + 1) = ((Um.nextN s p b k).1 ++ [((Um.sideR s p b k).1, (Um.sideR s p b k).2.1)], 0) := by
  rw [Um.nextN_succ, if_pos h, if_pos h1]

set_option maxRecDepth 100000 in
set_option maxHeartbeats 16000000 in
theorem ofEach_any (s : List (List Um.Tm)) (v0 : Value) (p : List (Int × Int)) (v1 : Value) (b : List (Int × Int)) (v : Value) (B0 B1 : Nat) (w : World) (hf : Lf w.heap.size w v0 s) (hp : Ls w.heap.size w v1 p) (hs : Ls w.heap.size w v b) (hY : SyAt w B0 v0 v1) (hV : VaAt w B1 v) (h : Um.readyF s p b = 0) :
    Calls Tryz.prog 34 #[.int .i64 (s.length : Int), .func (.func 35) #[] #[.pointer (some ⟨B0, 0, none⟩), .pointer (some ⟨B1, 0, none⟩)]] w fun e w' => ∃ r, e = .returned (.tuple #[r, errV (Um.behR s p b).2]) ∧ Ls w'.heap.size w' r (Um.behR s p b).1 ∧ Below w.heap.size w w' := by
  have ve := errV_none
  have q1 := errG
  have q2 := errGn
  have q3 := errE
  have q4 := errN
  have hs3 := (Um.sys_ok.1 (Um.ready_ok.1 h).1).2.1
  have HO0 := fun i hi w hf hp hs hY hV => hid (ofOne_any s v0 p v1 b v i B0 B1 w hf hp hs hY hV h hi)
  clear h
  obtain ⟨i0, hi0, hz0, hz1, hz2⟩ := info_parts info_spanE
  go_enter Tryz.func34, Tryz.ntmps34
  go_wp2_with (at_make; refine wpList_make_full _ rfl _ _ 23 rfl w.heap.size 49 i0 (.agg #[.int .i64 0, .int .i64 0]) 2 Tryz.underlying23 hi0 hz0 hz1 .i64 .i64 _ _ s.length rfl rfl (by first | rfl | omega) (by first | rfl | omega) (by rw [hz2]; omega) (by unfold maxLen; omega) (by simp) ?_; intro w0 hown hgrow)
  have hR := RowS.start hgrow hown
  clear hown hgrow
  go_loopw [14] (fun i wr => ∃ k : Nat, k ≤ s.length ∧ i = .int .i64 k ∧ RowS w s.length w.heap.size wr (Um.nextN s p b k).1 ∧ Hid ((Um.nextN s p b k).2 = 0)) (fun i _ => s.length - (intOf i).toNat)
  case atStart => exact ⟨0, Nat.zero_le _, rfl, hR, rfl⟩
  case round =>
    clear hR
    obtain ⟨k, hk, rfl, hR, hZ⟩ := hrel
    have hL := (Um.nextN_ok hZ.out).1
    by_cases hkl : k < s.length
    · have hkk : (k : Int) < (s.length : Int) := by omega
      have HO := HO0 k hkl
      have HLN := hid hL.symm
      have HB := fun h => hid (next_stop (p := p) (b := b) hkl h)
      have HG := fun h => hid (next_go hZ.out h)
      clear HO0 hL hZ
      generalize Um.sideR s p b k = A at *
      by_cases hc : A.2.2 = 0
      · have kc : (A.2.2 != 0) = false := by simpa using hc
        have HM := HG hc
        clear HB HG hc
        go_wp2_with (go_at_call 35; refine (HO _ (hf.step hR.below) (hp.step hR.below) (hs.step hR.below) (hY.step hR.below) (hV.step hR.below)).out.mono ?_; rintro e wn ⟨rfl, hb⟩; replace hR := hR.step hb; clear hb HO; have hS := Sp.new wn A.1 A.2.1; have x0l := hS.lo; have x0h := hS.hi; replace hR := hR.step ((Below.refl _ _).alloc (Nat.le_refl _) (.cells #[.int .i64 A.1, .int .i64 A.2.1] 49)); have y1 := hR.row.frozenAt (k * 2); have y2 := hR.row.frozenAt (k * 2 + 1); have y3 := hR.lo0 HLN.out hkl; have y4 := hR.hi0 HLN.out hkl)
        exact ⟨⟨k + 1, by omega, by simp, by rw [HM.out]; exact hR.put HLN.out hkl _ _, by rw [HM.out]; exact rfl⟩, by simp [intOf]; omega⟩
      · have kc : (A.2.2 != 0) = true := by simpa using hc
        have HM := HB hc
        clear HB HG hc
        go_wp2_with (go_at_call 35; refine (HO _ (hf.step hR.below) (hp.step hR.below) (hs.step hR.below) (hY.step hR.below) (hV.step hR.below)).out.mono ?_; rintro e wn ⟨rfl, hb⟩; replace hR := hR.step hb; clear hb HO)
        go_returns
        rw [HM.out]
        exact ⟨_, rfl, Ls.nil _ _, hR.below.alloc hR.below.size _⟩
    · obtain rfl : k = s.length := by omega
      have HA := hid (hR.all hL)
      have HB := hid hR.below
      have HZ : Hid (Um.behR s p b = ((Um.nextN s p b s.length).1, 0)) := by rw [← hZ.out]; exact hid rfl
      clear hR hL hZ HO0
      go_wp2
      go_returns
      rw [HZ.out]
      refine ⟨_, ?_, HA.out, HB.out⟩
      show _ = Ending.returned (Value.tuple #[_, errV 0])
      rw [errV_none]
      rfl

set_option maxRecDepth 100000 in
set_option maxHeartbeats 8000000 in
theorem sof_not (s : List (List Um.Tm)) (v0 : Value) (p : List (Int × Int)) (v1 : Value) (b : List (Int × Int)) (v : Value) (w : World) (hf : Lf w.heap.size w v0 s) (hp : Ls w.heap.size w v1 p) (hs : Ls w.heap.size w v b) (h : ¬ Um.readyF s p b = 0) :
    Calls Tryz.prog 16 #[.agg #[v0, v1], v] w fun e w' => e = .returned (.tuple #[.slice none 0 0, errV (Um.readyF s p b)]) ∧ Below w.heap.size w w' := by
  have ve := errV_none
  have q1 := errG
  have q2 := errGn
  have q3 := errE
  have q4 := errN
  obtain ⟨a0, cap0, rfl, -⟩ := (id hf)
  obtain ⟨a1, cap1, rfl, -⟩ := (id hp)
  obtain ⟨a2, cap2, rfl, -⟩ := (id hs)
  have hY := (SyAt.new w (.slice a0 s.length cap0) (.slice a1 p.length cap1) 25 rfl).alloc (.cells #[.slice a2 b.length cap2] 23)
  have hV := VaAt.new (w.alloc (.cells #[.slice a0 s.length cap0, .slice a1 p.length cap1] 25)) (.slice a2 b.length cap2) 23 (B := w.heap.size + 1) (by simp)
  have hBW : Below w.heap.size w ((w.alloc (.cells #[.slice a0 s.length cap0, .slice a1 p.length cap1] 25)).alloc (.cells #[.slice a2 b.length cap2] 23)) := by go_grown
  have y0 := hY.c0
  have y1 := hY.c1
  have y2 := hV.c
  replace hf := hf.step hBW
  replace hp := hp.step hBW
  replace hs := hs.step hBW
  have HV := fun w hf hp hs => hid (sover_any s (.slice a0 s.length cap0) p (.slice a1 p.length cap1) b (.slice a2 b.length cap2) w hf hp hs)
  have kS : (Um.readyF s p b != 0) = true := by simpa using h
  clear h
  generalize Um.readyF s p b = G at *
  go_enter Tryz.func16, Tryz.ntmps16
  go_wp2_with (go_at_call 19; refine (HV _ hf hp hs).out.mono ?_; rintro e wn ⟨rfl, hb⟩; have hB := hBW.trans (hb.mono hBW.size); clear hf hp hs hY hV hb HV hBW)
  go_returns
  exact ⟨rfl, hB⟩

set_option maxRecDepth 100000 in
set_option maxHeartbeats 8000000 in
theorem sof_right (s : List (List Um.Tm)) (v0 : Value) (p : List (Int × Int)) (v1 : Value) (b : List (Int × Int)) (v : Value) (w : World) (hf : Lf w.heap.size w v0 s) (hp : Ls w.heap.size w v1 p) (hs : Ls w.heap.size w v b) (h : Um.readyF s p b = 0) :
    Calls Tryz.prog 16 #[.agg #[v0, v1], v] w fun e w' => ∃ r, e = .returned (.tuple #[r, errV (Um.behR s p b).2]) ∧ Ls w'.heap.size w' r (Um.behR s p b).1 ∧ Below w.heap.size w w' := by
  have ve := errV_none
  have q1 := errG
  have q2 := errGn
  have q3 := errE
  have q4 := errN
  obtain ⟨a0, cap0, rfl, -⟩ := (id hf)
  obtain ⟨a1, cap1, rfl, -⟩ := (id hp)
  obtain ⟨a2, cap2, rfl, -⟩ := (id hs)
  have hY := (SyAt.new w (.slice a0 s.length cap0) (.slice a1 p.length cap1) 25 rfl).alloc (.cells #[.slice a2 b.length cap2] 23)
  have hV := VaAt.new (w.alloc (.cells #[.slice a0 s.length cap0, .slice a1 p.length cap1] 25)) (.slice a2 b.length cap2) 23 (B := w.heap.size + 1) (by simp)
  have hBW : Below w.heap.size w ((w.alloc (.cells #[.slice a0 s.length cap0, .slice a1 p.length cap1] 25)).alloc (.cells #[.slice a2 b.length cap2] 23)) := by go_grown
  have y0 := hY.c0
  have y1 := hY.c1
  have y2 := hV.c
  replace hf := hf.step hBW
  replace hp := hp.step hBW
  replace hs := hs.step hBW
  have HV := fun w hf hp hs => hid (sover_any s (.slice a0 s.length cap0) p (.slice a1 p.length cap1) b (.slice a2 b.length cap2) w hf hp hs)
  have HE := fun wz hf hp hs hY hV => hid (ofEach_any s (.slice a0 s.length cap0) p (.slice a1 p.length cap1) b (.slice a2 b.length cap2) (w.heap.size) (w.heap.size + 1) wz hf hp hs hY hV h)
  have kS : (Um.readyF s p b != 0) = false := by simpa using h
  clear h
  generalize Um.readyF s p b = G at *
  go_enter Tryz.func16, Tryz.ntmps16
  go_wp2_with (first | (go_at_call 19; refine (HV _ hf hp hs).out.mono ?_; rintro e wn ⟨rfl, hb⟩; replace hf := hf.step hb; replace hp := hp.step hb; replace hs := hs.step hb; replace hY := hY.step hb; replace hV := hV.step hb; have y0 := hY.c0; have hB := hBW.trans (hb.mono hBW.size); clear hb HV hBW) | (go_at_call 34; refine (HE _ hf hp hs hY hV).out.mono ?_; rintro e wm ⟨r, rfl, hr, hb⟩; replace hB := hB.trans (hb.mono hB.size); clear hb hf hp hs hY hV y0))
  go_returns
  exact ⟨r, rfl, hr, hB⟩

theorem sof_any (s : List (List Um.Tm)) (v0 : Value) (p : List (Int × Int)) (v1 : Value) (b : List (Int × Int)) (v : Value) (w : World) (hf : Lf w.heap.size w v0 s) (hp : Ls w.heap.size w v1 p) (hs : Ls w.heap.size w v b) :
    Calls Tryz.prog 16 #[.agg #[v0, v1], v] w fun e w' => ∃ r, e = .returned (.tuple #[r, errV (Um.ofAll s p b).2]) ∧ Ls w'.heap.size w' r (Um.ofAll s p b).1 ∧ Below w.heap.size w w' := by
  by_cases h : Um.readyF s p b = 0
  · rw [Um.ofAll_yes h]
    exact sof_right s v0 p v1 b v w hf hp hs h
  · rw [Um.ofAll_not h]
    refine (sof_not s v0 p v1 b v w hf hp hs h).mono ?_
    rintro e w' ⟨rfl, hb⟩
    exact ⟨_, rfl, Ls.nil _ _, hb⟩

theorem at_may {f : List Um.Tm} {x : List Int} (h : (Um.atAll f x).2 = 0) : Um.may (Um.atAll f x).1 = true := by
  unfold Um.atAll at h ⊢
  by_cases c : Um.atF f x = 0
  · rw [if_pos c] at h ⊢
    unfold Um.ptR at h ⊢
    by_cases b : Um.bysP f
    · rw [if_pos b] at h ⊢
      split at h
      · rename_i hm; rw [if_pos hm]; exact hm
      · cases h
    · rw [if_neg b] at h; cases h
  · rw [if_neg c] at h; exact absurd h c
/-- Where one unknown goes; the fault. -/
def oneM (s : List (List Um.Tm)) (x q : List Int) (i : Nat) : Int × Int := if (Um.atAll (Um.nx s i) x).2 = 0 then (if Um.may ((Um.atAll (Um.nx s i) x).1 + Um.nm q i) = true then ((Um.atAll (Um.nx s i) x).1 + Um.nm q i, 0) else (0, 4)) else (0, (Um.atAll (Um.nx s i) x).2)
/-- Where the first k unknowns go; the fault. -/
def movM (s : List (List Um.Tm)) (x q : List Int) : Nat → List Int × Int
  | 0 => ([], 0)
  | k + 1 => if (movM s x q k).2 = 0 then (if (oneM s x q k).2 = 0 then ((movM s x q k).1 ++ [(oneM s x q k).1], 0) else ([], (oneM s x q k).2)) else movM s x q k
theorem movM_succ (s : List (List Um.Tm)) (x q : List Int) (k : Nat) : movM s x q (k + 1) = if (movM s x q k).2 = 0 then (if (oneM s x q k).2 = 0 then ((movM s x q k).1 ++ [(oneM s x q k).1], 0) else ([], (oneM s x q k).2)) else movM s x q k := rfl
theorem movM_stay {s : List (List Um.Tm)} {x q : List Int} {k : Nat} {e : Int} (h : movM s x q k = ([], e)) (he : ¬ e = 0) : ∀ {n : Nat}, k ≤ n → movM s x q n = ([], e) := by
  intro n hn
  induction n with
  | zero => obtain rfl : k = 0 := by omega
            exact h
  | succ n ih =>
    rcases (by omega : k = n + 1 ∨ k ≤ n) with rfl | g
    · exact h
    · rw [movM_succ, ih g, if_neg he]
theorem movM_bad {s : List (List Um.Tm)} {x q : List Int} {k n : Nat} (hk : k < n) (h : (movM s x q k).2 = 0) (h1 : ¬ (oneM s x q k).2 = 0) : movM s x q n = ([], (oneM s x q k).2) :=
  movM_stay (k := k + 1) (by rw [movM_succ, if_pos h, if_neg h1]) h1 hk
theorem movM_go {s : List (List Um.Tm)} {x q : List Int} {k : Nat} (h : (movM s x q k).2 = 0) (h1 : (oneM s x q k).2 = 0) : movM s x q (k + 1) = ((movM s x q k).1 ++ [(oneM s x q k).1], 0) := by
  rw [movM_succ, if_pos h, if_pos h1]
theorem movM_len {s : List (List Um.Tm)} {x q : List Int} : ∀ {k : Nat}, (movM s x q k).2 = 0 → (movM s x q k).1.length = k
  | 0, _ => rfl
  | k + 1, h => by
    have h0 : (movM s x q k).2 = 0 := by
      by_cases c : (movM s x q k).2 = 0
      · exact c
      · rw [movM_succ, if_neg c] at h; exact absurd h c
    have h1 : (oneM s x q k).2 = 0 := by
      by_cases c : (oneM s x q k).2 = 0
      · exact c
      · rw [movM_succ, if_pos h0, if_neg c] at h; exact absurd h c
    rw [movM_go h0 h1, List.length_append, movM_len h0]
    rfl
theorem at_pt {s : List (List Um.Tm)} {p : List (Int × Int)} {x : List Int} (hs : Um.sysF s p = 0) (hx : x.length = s.length) (hn : Um.numsF x = 0) {i : Nat} (hi : i < s.length) : Um.atAll (Um.nx s i) x = Um.ptR (Um.nx s i) x := by
  unfold Um.atAll
  rw [if_pos (Um.at_ok.2 ⟨by rw [hx]; exact (Um.sys_ok.1 hs).2.2.2.1 _ (Um.nx_mem hi), hn⟩)]
theorem mov_same {s : List (List Um.Tm)} {p : List (Int × Int)} {x q : List Int} (hs : Um.sysF s p = 0) (hx : x.length = s.length) (hn : Um.numsF x = 0) : ∀ {k : Nat}, k ≤ s.length → movM s x q k = Um.movN s x q k
  | 0, _ => rfl
  | k + 1, hk => by
    have ih := mov_same (q := q) hs hx hn (k := k) (by omega)
    have e := at_pt hs hx hn (show k < s.length by omega)
    rw [movM_succ, Um.movN_succ, ih]
    unfold oneM
    rw [e]
    by_cases c : (Um.movN s x q k).2 = 0
    · rw [if_pos c, if_pos c]
      by_cases c1 : (Um.ptR (Um.nx s k) x).2 = 0
      · rw [if_pos c1, if_pos c1]
        by_cases c2 : Um.may ((Um.ptR (Um.nx s k) x).1 + Um.nm q k) = true
        · rw [if_pos c2, if_pos c2, if_pos rfl]
        · rw [if_neg c2, if_neg c2, if_neg (by decide)]
      · rw [if_neg c1, if_neg c1, if_neg c1]
    · rw [if_neg c, if_neg c]
theorem mov_is {s : List (List Um.Tm)} {p : List (Int × Int)} {x q : List Int} (h : movC s p x q = 0) : movM s x q s.length = Um.movAll s p x q := by
  have hs : Um.sysF s p = 0 := by
    by_cases c : Um.sysF s p = 0
    · exact c
    · unfold movC at h; rw [if_neg c] at h; exact absurd h c
  have hl : x.length = s.length ∧ q.length = s.length := by
    by_cases c : x.length = s.length ∧ q.length = s.length
    · exact c
    · unfold movC at h; rw [if_pos hs, if_neg c] at h; cases h
  have hp : Um.pushP p q := by
    by_cases c : Um.pushP p q
    · exact c
    · unfold movC pushF at h; rw [if_pos hs, if_pos hl, if_neg c] at h; cases h
  rcases Um.nums_fault x with hn | hn
  · rw [mov_same hs hl.1 hn (Nat.le_refl _), Um.movAll_yes (Um.mov_ok.2 ⟨hs, hl, hp, hn⟩)]
  · have e : Um.movF s p x q = 1 := by rw [Um.mov_nums hs hl hp, hn]
    rw [Um.movAll_not (by rw [e]; decide), e]
    have h0 : 0 < s.length := List.length_pos_iff.2 (Um.sys_ok.1 hs).1
    have a : Um.atAll (Um.nx s 0) x = (0, 1) := by
      have f : Um.atF (Um.nx s 0) x = 1 := by
        unfold Um.atF
        rw [if_pos (by rw [hl.1]; exact (Um.sys_ok.1 hs).2.2.2.1 _ (Um.nx_mem h0)), hn]
      unfold Um.atAll
      rw [f, if_neg (by decide)]
    have o : (oneM s x q 0).2 = 1 := by
      unfold oneM
      rw [a, if_neg (by decide)]
    have := movM_bad (s := s) (x := x) (q := q) (k := 0) (n := s.length) h0 rfl (by rw [o]; decide)
    rw [this, o]
theorem movC_ok {s : List (List Um.Tm)} {p : List (Int × Int)} {x q : List Int} (h : movC s p x q = 0) : Um.sysF s p = 0 ∧ (x.length = s.length ∧ q.length = s.length) ∧ Um.pushP p q := by
  have hs : Um.sysF s p = 0 := by
    by_cases c : Um.sysF s p = 0
    · exact c
    · unfold movC at h; rw [if_neg c] at h; exact absurd h c
  have hl : x.length = s.length ∧ q.length = s.length := by
    by_cases c : x.length = s.length ∧ q.length = s.length
    · exact c
    · unfold movC at h; rw [if_pos hs, if_neg c] at h; cases h
  refine ⟨hs, hl, ?_⟩
  by_cases c : Um.pushP p q
  · exact c
  · unfold movC pushF at h; rw [if_pos hs, if_pos hl, if_neg c] at h; cases h
theorem movC_not {s : List (List Um.Tm)} {p : List (Int × Int)} {x q : List Int} (h : ¬ movC s p x q = 0) : Um.movAll s p x q = ([], movC s p x q) := by
  have e : Um.movF s p x q = movC s p x q := by
    unfold movC at h ⊢
    by_cases c : Um.sysF s p = 0
    · rw [if_pos c] at h ⊢
      by_cases c2 : x.length = s.length ∧ q.length = s.length
      · rw [if_pos c2] at h ⊢
        unfold pushF at h ⊢
        by_cases c3 : Um.pushP p q
        · rw [if_pos c3] at h; exact absurd rfl h
        · rw [if_neg c3, Um.mov_push c c2 c3]
      · rw [if_neg c2, Um.mov_shape c c2]
    · rw [if_neg c, Um.mov_sys c]
  rw [Um.movAll_not (by rw [e]; exact h), e]
theorem push_may {s : List (List Um.Tm)} {p : List (Int × Int)} {x q : List Int} (h : movC s p x q = 0) {i : Nat} (hi : i < s.length) : Um.may (Um.nm q i) = true := by
  obtain ⟨hs, hl, hp⟩ := movC_ok h
  obtain ⟨m1, m2, m3⟩ := Um.chk_ok.1 (Um.sys_push hs hi)
  have g := hp i (by omega)
  have a := (Um.may_iff _).1 m1
  have b := (Um.may_iff _).1 m2
  exact (Um.may_iff _).2 ⟨by omega, by omega⟩

/-- A row of n numbers of one's own, of which the first are told. -/
structure RowI (w : World) (n B : Nat) (wr : World) (l : List Int) : Prop where
  below : Below w.heap.size w wr
  most : l.length ≤ n
  row : wr.ownsRow w.heap.size 3 1 (.slice (some ⟨B, 0, none⟩) n n) n ((l ++ List.replicate (n - l.length) 0).map (Value.int .i64))
theorem zeros_int (n : Nat) : (madeCells #[Value.int .i64 0] (n * 1)).toList = (List.replicate n 0).map (Value.int .i64) := by
  apply List.ext_getElem?
  intro i
  by_cases h : i < n
  · simp [madeCells, h, Nat.mod_one]
  · have e1 : (madeCells #[Value.int .i64 0] (n * 1)).toList[i]? = none := List.getElem?_eq_none (by simp [madeCells]; omega)
    have e2 : ((List.replicate n (0 : Int)).map (Value.int .i64))[i]? = none := List.getElem?_eq_none (by simp; omega)
    rw [e1, e2]
theorem RowI.start {w w0 : World} {n B : Nat} (hg : w.grownBy w0 none)
    (hr : w0.ownsRow w.heap.size 3 1 (.slice (some ⟨B, 0, none⟩) n n) n (madeCells (Value.int .i64 0).cells (n * 1)).toList) : RowI w n B w0 [] := by
  refine ⟨(Below.refl w.heap.size w).grown hg (Nat.le_refl _) (fun j e => by cases e), Nat.zero_le _, ?_⟩
  have e : (Value.int .i64 0).cells = #[.int .i64 0] := rfl
  rw [e, zeros_int] at hr
  exact hr
theorem RowI.step {w wr w' : World} {n B : Nat} {l : List Int} (h : RowI w n B wr l) (hb : Below wr.heap.size wr w') : RowI w n B w' l :=
  ⟨h.below.trans (hb.mono h.below.size), h.most, owns_keep h.row hb⟩
theorem RowI.at0 {w wr : World} {n B : Nat} {l : List Int} (h : RowI w n B wr l) {k : Nat} (hk : k = l.length) (hn : k < n) : wr.cell? ⟨B, k, none⟩ = some (.int .i64 0) := by
  subst hk
  rw [h.row.cellAt l.length (by omega), List.getElem?_map, List.getElem?_append_right (Nat.le_refl _), Nat.sub_self]
  simp [show 0 < n - l.length by omega]
theorem RowI.ge {w wr : World} {n B : Nat} {l : List Int} (h : RowI w n B wr l) : w.heap.size ≤ B := owns_from h.row B rfl
theorem RowI.put {w wr : World} {n B : Nat} {l : List Int} (h : RowI w n B wr l) {k : Nat} (hk : k = l.length) (hn : k < n) (c : Int) :
    RowI w n B (wr.setCell ⟨B, k, none⟩ (.int .i64 c)) (l ++ [c]) := by
  subst hk
  have g := h.ge
  have s1 := (h.row.stored l.length (.int .i64 c)).1
  refine ⟨h.below.setCell (by show w.heap.size ≤ B; omega) _, by rw [List.length_append]; show l.length + 1 ≤ n; omega, ?_⟩
  rw [← List.map_set, show n - l.length = (n - (l.length + 1)) + 1 by omega, set_next] at s1
  rw [List.length_append]
  exact s1
theorem RowI.all {w wr : World} {n B : Nat} {l : List Int} (h : RowI w n B wr l) (hl : l.length = n) : Li wr.heap.size wr (.slice (some ⟨B, 0, none⟩) n n) l := by
  subst hl
  have := h.row
  rw [Nat.sub_self, List.replicate_zero, List.append_nil] at this
  exact li_owns this

end Go.Proofs.YthgehlonjoafmaaGreatDoor
