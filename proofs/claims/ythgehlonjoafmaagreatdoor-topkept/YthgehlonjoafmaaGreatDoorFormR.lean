/-
  What package form answers: termOver of a term and a box that are right, Range at every argument.
-/
import Derived.Test.YthgehlonjoafmaaGreatDoorFormC
import Derived.Test.YthgehlonjoafmaaGreatDoorBoxC
import Derived.Test.YthgehlonjoafmaaGreatDoorSpanAdd
import Derived.Test.YthgehlonjoafmaaGreatDoorSpanTimes
import Derived.Test.YthgehlonjoafmaaGreatDoorPowerOf
import Derived.Test.YthgehlonjoafmaaGreatDoorMems
namespace Go.Proofs.YthgehlonjoafmaaGreatDoor
set_option linter.unusedSimpArgs false
open Go.RowKit

theorem falone_any (n : Int) (w : World) :
    Calls Tryz.prog 42 #[.int .i64 n] w fun e w' => e = .returned (.agg #[.int .i64 n, .int .i64 n]) ∧ Below w.heap.size w w' := by
  go_enter Tryz.func42, Tryz.ntmps42
  go_wp2
  go_returns
  exact ⟨rfl, by go_grown⟩
theorem of_right {lo hi n : Int} (h : Um.chk lo hi = 0) (h0 : 0 ≤ n) (h3 : n ≤ 3) : Um.ofR lo hi n = Um.powR lo hi n.toNat := by
  unfold Um.ofR
  rw [if_pos h, if_neg (by omega)]
theorem made_right {r : Int × Int × Int} {a b c d : Int} (h1 : Um.chk a b = 0) (h2 : Um.chk c d = 0) : Um.made r a b c d = r := by
  unfold Um.made Um.two
  rw [if_pos h1, if_pos h2]
theorem prod_last {t : Um.Tm} {b : List (Int × Int)} {k : Nat} (hk : k < b.length) (h : ¬ (Um.prodN t b (k + 1)).2.2 = 0) : Um.prodN t b b.length = (0, 0, 4) := by
  have := Um.prod_stay h (b.length - (k + 1))
  rwa [show k + 1 + (b.length - (k + 1)) = b.length by omega] at this
theorem sum_last {f : List Um.Tm} {b : List (Int × Int)} {n : Nat} (hn : n < f.length) (h : ¬ (Um.sumN f b (n + 1)).2.2 = 0) : Um.frR f b = (0, 0, 4) := by
  have := Um.sum_stay h (f.length - (n + 1))
  rwa [show n + 1 + (f.length - (n + 1)) = f.length by omega] at this

set_option maxRecDepth 100000 in
set_option maxHeartbeats 16000000 in
theorem termOver_any (t : Um.Tm) (b : List (Int × Int)) (v : Value) (w : World) (hs : Ls w.heap.size w v b) (ht : Um.tmP t) (hb : Um.boxF b = 0) :
    Calls Tryz.prog 55 #[.agg #[.int .i64 t.1, .int .i64 t.2.1, .int .i64 t.2.2.1, .int .i64 t.2.2.2], v] w fun e w' => e = .returned (.tuple #[.agg #[.int .i64 (Um.prodN t b b.length).1, .int .i64 (Um.prodN t b b.length).2.1], errV (Um.prodN t b b.length).2.2]) ∧ Below w.heap.size w w' := by
  have v0 := errV_none
  have q1 := errG
  have q2 := errGn
  have q3 := errE
  have q4 := errN
  have hmx : Tryz.prog.follows .mixedOrders = true := by kernel_rfl
  have hln := Um.box_len hb
  have HP0 := hid ht
  have HBX := hid hb
  obtain ⟨b2, off2, cap2, rfl, -, hB0⟩ := hs.open (Um.box_ok.1 hb).1
  have hbw : Below w.heap.size w (w.alloc (.cells #[.int .i64 t.1, .int .i64 t.2.1, .int .i64 t.2.2.1, .int .i64 t.2.2.2] 92)) := by go_grown
  have hK := Blk.new w 92 #[.int .i64 t.1, .int .i64 t.2.1, .int .i64 t.2.2.1, .int .i64 t.2.2.2]
  have HTT : Hid (∀ k, k < 3 → (w.alloc (.cells #[.int .i64 t.1, .int .i64 t.2.1, .int .i64 t.2.2.1, .int .i64 t.2.2.2] 92)).cell? ⟨w.heap.size, 1 + k, none⟩ = some (.int .i64 (Um.tmT t k))) := by
    refine hid fun k hk => ?_
    rcases (by omega : k = 0 ∨ k = 1 ∨ k = 2) with rfl | rfl | rfl
    · exact hK.cell 1 rfl
    · exact hK.cell 2 rfl
    · exact hK.cell 3 rfl
  replace hB0 := hB0.step hbw
  have HBW := hid hbw
  have HKL : Hid (w.heap.size < (w.alloc (.cells #[.int .i64 t.1, .int .i64 t.2.1, .int .i64 t.2.2.1, .int .i64 t.2.2.2] 92)).heap.size) := hid hK.lt
  clear hs hb ht hK hbw
  have hF := (Fr.start (w.alloc (.cells #[.int .i64 t.1, .int .i64 t.2.1, .int .i64 t.2.2.1, .int .i64 t.2.2.2] 92))).push (b := w.heap.size + 1) 0 0 (by simp)
  have HAl := fun w => hid (falone_any t.1 w)
  go_enter Tryz.func55, Tryz.ntmps55
  go_wp2_with (go_at_call 42; refine (HAl _).out.mono ?_; rintro e wn ⟨rfl, hb⟩; replace hF := hF.step hb; clear hb; clear HAl; replace hF := hF.push t.1 t.1 rfl)
  generalize wn.heap.size = B2 at *
  go_loopw [16] (fun i wr => ∃ k : Nat, k ≤ b.length ∧ i = .int .i64 k ∧ Fr (w.alloc (.cells #[.int .i64 t.1, .int .i64 t.2.1, .int .i64 t.2.2.1, .int .i64 t.2.2.2] 92)) wr [(B2, (Um.prodN t b k).1, (Um.prodN t b k).2.1), (w.heap.size + 1, 0, 0)] ∧ Hid ((Um.prodN t b k).2.2 = 0)) (fun i _ => b.length - (intOf i).toNat)
  case atStart => exact ⟨0, Nat.zero_le _, rfl, hF, rfl⟩
  case round =>
    clear hF
    obtain ⟨k, hk, rfl, hF0, hK⟩ := hrel
    by_cases hkl : k < b.length
    · have hkk : (k : Int) < (b.length : Int) := by omega
      have hk3 : (k : Int) < 3 := by omega
      have hTl0 : w.heap.size < wr.heap.size := Nat.lt_of_lt_of_le HKL.out hF0.size
      have hB := hB0.step hF0.below
      have zl := hB.lo k (Um.sd_some hkl) rfl
      have zh := hB.hi k (Um.sd_some hkl) rfl
      have tt := Um.tm_times HP0.out k
      have hcs := Um.box_side HBX.out hkl
      have hQ0 : wr.cell? ⟨w.heap.size, 1 + k, none⟩ = some (.int .i64 (Um.tmT t k)) := (hF0.below.cell (p := ⟨w.heap.size, 1 + k, none⟩) HKL.out).trans (HTT.out k (by omega))
      have HP := fun w => by
        have := of_any (Um.sd b k).1 (Um.sd b k).2 (Um.tmT t k) w
        rw [of_right hcs tt.1 tt.2] at this
        exact hid this
      have HPC := fun h => hid (Um.pow_chk hcs (k := (Um.tmT t k).toNat) (by omega) h)
      have HPF := hid (Um.pow_fault (lo := (Um.sd b k).1) (hi := (Um.sd b k).2) (Um.tmT t k).toNat)
      have HCC := hid (Um.prod_chk HP0.out HBX.out hk hK.out)
      have HPB := fun h => hid (prod_last (t := t) hkl h)
      have HPN := fun h => hid (show Um.prodN t b (k + 1) = Um.stimesR (Um.prodN t b k).1 (Um.prodN t b k).2.1 (Um.powR (Um.sd b k).1 (Um.sd b k).2 (Um.tmT t k).toNat).1 (Um.powR (Um.sd b k).1 (Um.sd b k).2 (Um.tmT t k).toNat).2.1 by rw [Um.prod_succ, if_pos hK.out, if_pos h])
      have HP4 := fun (h : ¬ (Um.powR (Um.sd b k).1 (Um.sd b k).2 (Um.tmT t k).toNat).2.2 = 0) => hid (show Um.prodN t b (k + 1) = (0, 0, 4) by rw [Um.prod_succ, if_pos hK.out, if_neg h])
      clear HP0 HBX hcs hB0 tt HTT hB hK HKL
      generalize Um.tmT t k = Q at *
      generalize Um.prodN t b k = Y at *
      generalize Um.sd b k = s2 at *
      obtain ⟨C0, C1⟩ := s2
      simp only at HP HPC HPF HPN HP4 zl zh
      generalize Um.powR C0 C1 Q.toNat = P at *
      replace hF0 := hF0.push (b := wr.heap.size) C0 C1 rfl
      have hS := hF0.at 0 rfl
      have hQc := cell_old wr (.cells #[.int .i64 C0, .int .i64 C1] 49) ⟨w.heap.size, 1 + k, none⟩ hTl0 hQ0
      have hTl : w.heap.size < (wr.alloc (.cells #[.int .i64 C0, .int .i64 C1] 49)).heap.size := by simp; omega
      clear hTl0 hQ0
      by_cases c : P.2.2 = 0
      · have HTs := fun w => hid (stimes_any Y.1 Y.2.1 P.1 P.2.1 w)
        have HT := fun w => by
          have := stimes_any Y.1 Y.2.1 P.1 P.2.1 w
          rw [made_right HCC.out (HPC c).out] at this
          exact hid this
        have HM := HPN c
        have kP : (P.2.2 != 0) = false := by simpa using c
        have HRF := hid (Um.stimes_fault Y.1 Y.2.1 P.1 P.2.1)
        clear HPC HPF HPN HP4 c HCC HTs
        generalize Um.stimesR Y.1 Y.2.1 P.1 P.2.1 = R at *
        by_cases c2 : R.2.2 = 0
        · have kR : (R.2.2 != 0) = false := by simpa using c2
          have HZ := hid c2
          clear HPB HRF c2
          go_wp2
          generalize wr.heap.size = Bs at *
          generalize wr.alloc (.cells #[.int .i64 C0, .int .i64 C1] 49) = W at *
          obtain ⟨Inv, hInv⟩ : ∃ Inv : Array Bool → Act → World → Prop, ∀ listed aq W', Inv listed aq W' ↔ (∃ v22 v23 v24 v25 v26 v27 v21 v28 v29 v9 v10 : Value, aq = { tmps := #[Value.agg #[Value.int IntKind.i64 t.fst, Value.int IntKind.i64 t.snd.fst, Value.int IntKind.i64 t.snd.snd.fst, Value.int IntKind.i64 t.snd.snd.snd], Value.slice (some { block := b2, off := off2 }) b.length cap2, Value.pointer (some { block := w.heap.size, off := 0 }), undef, Value.pointer (some { block := w.heap.size + 1, off := 0 }), u5, Value.pointer (some { block := B2, off := 0 }), Value.int IntKind.i64 ↑k, Value.pointer (some { block := Bs, off := 0 }), v9, v10, Value.pointer (some { block := w.heap.size, off := 0 }), Value.int IntKind.i64 t.fst, Value.agg #[Value.int IntKind.i64 t.fst, Value.int IntKind.i64 t.fst], Value.slice (some { block := b2, off := off2 }) b.length cap2, Value.int IntKind.i64 ↑b.length, Value.int IntKind.i64 ↑k, Value.bool true, Value.int IntKind.i64 ↑k, Value.pointer (some { block := b2, off := off2 + k * 2 }), Value.agg #[Value.int IntKind.i64 C0, Value.int IntKind.i64 C1], v21, v22, v23, v24, v25, v26, v27, v28, v29, u30, u31, u32, u33, u34, u35, u36, u37, u38, u39, u40, u41, u42, u43, u44, undef], defers := [] } ∧ Below (W).heap.size (W) W' ∧ (listed.getD 0 false = true → v22 = .agg #[.int .i64 C0, .int .i64 C1]) ∧ (listed.getD 1 false = true → v23 = Value.int IntKind.i64 ↑k) ∧ (listed.getD 2 false = true → v24 = .pointer (some ⟨w.heap.size, 1, none⟩)) ∧ (listed.getD 3 false = true → v25 = .pointer (some ⟨w.heap.size, 1 + k, none⟩)) ∧ (listed.getD 4 false = true → v26 = .int .i64 (Q)) ∧ (listed.getD 5 false = true → v27 = (.tuple #[.agg #[.int .i64 P.1, .int .i64 P.2.1], errV P.2.2])) ∧ (listed.getD 6 false = true → v21 = (.tuple #[.agg #[.int .i64 P.1, .int .i64 P.2.1], errV P.2.2])) ∧ (listed.getD 7 false = true → v28 = .agg #[.int .i64 P.1, .int .i64 P.2.1]) ∧ (listed.getD 8 false = true → v29 = errV P.2.2) ∧ (listed.getD 11 false = true → v10 = errV P.2.2) ∧ (listed.getD 9 false = true → ∃ (bn : Nat) (cn dn : Int), v9 = .pointer (some ⟨bn, 0, none⟩) ∧ (W).heap.size ≤ bn ∧ Sp W' bn cn dn ∧ (listed.getD 10 false = true → cn = P.1 ∧ dn = P.2.1)) ∧ (listed.getD 10 false = true → listed.getD 9 false = true)) := ⟨_, fun _ _ _ => Iff.rfl⟩
          have HI := hid hInv
          clear hInv
          refine Free.region hmx (by kernel_rfl) Inv ?s1 ?s2 ?s3
          case s1 =>
            exact (HI.out _ _ _).2 ⟨u22, u23, u24, u25, u26, u27, u21, u28, u29, u9, u10, rfl, (Below.refl _ _).drew, Free.not_yet, Free.not_yet, Free.not_yet, Free.not_yet, Free.not_yet, Free.not_yet, Free.not_yet, Free.not_yet, Free.not_yet, Free.not_yet, Free.not_yet, Free.not_yet⟩
          case s2 =>
            intro i listed aq W1 hix hne hnl hsz hv
            obtain ⟨v22, v23, v24, v25, v26, v27, v21, v28, v29, v9, v10, rfl, hW, l0, l1, l2, l3, l4, l5, l6, l7, l8, l11, ln, lp⟩ := (HI.out _ _ _).1 hv
            clear hv
            replace hix : i < 12 := hix
            replace hsz : listed.size = 12 := hsz
            rcases (by omega : i = 0 ∨ i = 1 ∨ i = 2 ∨ i = 3 ∨ i = 4 ∨ i = 5 ∨ i = 6 ∨ i = 7 ∨ i = 8 ∨ i = 9 ∨ i = 10 ∨ i = 11) with rfl | rfl | rfl | rfl | rfl | rfl | rfl | rfl | rfl | rfl | rfl | rfl
            · have z0 := (hS.step hW).lo
              have z1 := (hS.step hW).hi
              refine Free.op rfl rfl (fun K hK => ?_)
              go_simp
              exact hK _ _ ((HI.out _ _ _).2 ⟨_, v23, v24, v25, v26, v27, v21, v28, v29, v9, v10, rfl, hW, fun _ => rfl, Free.of_set (by decide) l1, Free.of_set (by decide) l2, Free.of_set (by decide) l3, Free.of_set (by decide) l4, Free.of_set (by decide) l5, Free.of_set (by decide) l6, Free.of_set (by decide) l7, Free.of_set (by decide) l8, Free.of_set (by decide) l11, fun e => by obtain ⟨bn, cn, dn, q1, q2, q3, q4⟩ := ln (Free.back (by decide) e); exact ⟨bn, cn, dn, q1, q2, q3, fun e2 => q4 (Free.back (by decide) e2)⟩, fun e => Free.fore (by decide) (lp (Free.back (by decide) e))⟩)
            · refine Free.op rfl rfl (fun K hK => ?_)
              go_simp
              exact hK _ _ ((HI.out _ _ _).2 ⟨v22, _, v24, v25, v26, v27, v21, v28, v29, v9, v10, rfl, hW, Free.of_set (by decide) l0, fun _ => rfl, Free.of_set (by decide) l2, Free.of_set (by decide) l3, Free.of_set (by decide) l4, Free.of_set (by decide) l5, Free.of_set (by decide) l6, Free.of_set (by decide) l7, Free.of_set (by decide) l8, Free.of_set (by decide) l11, fun e => by obtain ⟨bn, cn, dn, q1, q2, q3, q4⟩ := ln (Free.back (by decide) e); exact ⟨bn, cn, dn, q1, q2, q3, fun e2 => q4 (Free.back (by decide) e2)⟩, fun e => Free.fore (by decide) (lp (Free.back (by decide) e))⟩)
            · refine Free.op rfl rfl (fun K hK => ?_)
              go_simp
              exact hK _ _ ((HI.out _ _ _).2 ⟨v22, v23, _, v25, v26, v27, v21, v28, v29, v9, v10, rfl, hW, Free.of_set (by decide) l0, Free.of_set (by decide) l1, fun _ => rfl, Free.of_set (by decide) l3, Free.of_set (by decide) l4, Free.of_set (by decide) l5, Free.of_set (by decide) l6, Free.of_set (by decide) l7, Free.of_set (by decide) l8, Free.of_set (by decide) l11, fun e => by obtain ⟨bn, cn, dn, q1, q2, q3, q4⟩ := ln (Free.back (by decide) e); exact ⟨bn, cn, dn, q1, q2, q3, fun e2 => q4 (Free.back (by decide) e2)⟩, fun e => Free.fore (by decide) (lp (Free.back (by decide) e))⟩)
            · refine Free.op rfl rfl (fun K hK => ?_)
              obtain rfl := l1 (hne 1 (by kernel_rfl))
              obtain rfl := l2 (hne 2 (by kernel_rfl))
              go_simp
              exact hK _ _ ((HI.out _ _ _).2 ⟨v22, _, _, _, v26, v27, v21, v28, v29, v9, v10, rfl, hW, Free.of_set (by decide) l0, fun _ => rfl, fun _ => rfl, fun _ => rfl, Free.of_set (by decide) l4, Free.of_set (by decide) l5, Free.of_set (by decide) l6, Free.of_set (by decide) l7, Free.of_set (by decide) l8, Free.of_set (by decide) l11, fun e => by obtain ⟨bn, cn, dn, q1, q2, q3, q4⟩ := ln (Free.back (by decide) e); exact ⟨bn, cn, dn, q1, q2, q3, fun e2 => q4 (Free.back (by decide) e2)⟩, fun e => Free.fore (by decide) (lp (Free.back (by decide) e))⟩)
            · have z0 := (hW.cell (p := ⟨w.heap.size, 1 + k, none⟩) hTl).trans hQc
              refine Free.op rfl rfl (fun K hK => ?_)
              obtain rfl := l3 (hne 3 (by kernel_rfl))
              go_simp
              exact hK _ _ ((HI.out _ _ _).2 ⟨v22, v23, v24, _, _, v27, v21, v28, v29, v9, v10, rfl, hW, Free.of_set (by decide) l0, Free.of_set (by decide) l1, Free.of_set (by decide) l2, fun _ => rfl, fun _ => rfl, Free.of_set (by decide) l5, Free.of_set (by decide) l6, Free.of_set (by decide) l7, Free.of_set (by decide) l8, Free.of_set (by decide) l11, fun e => by obtain ⟨bn, cn, dn, q1, q2, q3, q4⟩ := ln (Free.back (by decide) e); exact ⟨bn, cn, dn, q1, q2, q3, fun e2 => q4 (Free.back (by decide) e2)⟩, fun e => Free.fore (by decide) (lp (Free.back (by decide) e))⟩)
            · refine Free.op rfl rfl (fun K hK => ?_)
              obtain rfl := l0 (hne 0 (by kernel_rfl))
              obtain rfl := l4 (hne 4 (by kernel_rfl))
              go_wp2_with (go_at_call 73; refine (HP _).out.mono ?_; rintro e W3 ⟨rfl, hb⟩)
              exact (HI.out _ _ _).2 ⟨_, v23, v24, v25, _, _, v21, v28, v29, v9, v10, rfl, hW.trans (hb.mono hW.size), fun _ => rfl, Free.of_set (by decide) l1, Free.of_set (by decide) l2, Free.of_set (by decide) l3, fun _ => rfl, fun _ => rfl, Free.of_set (by decide) l6, Free.of_set (by decide) l7, Free.of_set (by decide) l8, Free.of_set (by decide) l11, fun e => by obtain ⟨bn, cn, dn, q1, q2, q3, q4⟩ := ln (Free.back (by decide) e); exact ⟨bn, cn, dn, q1, q2, (q3.step hb), fun e2 => q4 (Free.back (by decide) e2)⟩, fun e => Free.fore (by decide) (lp (Free.back (by decide) e))⟩
            · refine Free.op rfl rfl (fun K hK => ?_)
              obtain rfl := l5 (hne 5 (by kernel_rfl))
              go_simp
              exact hK _ _ ((HI.out _ _ _).2 ⟨v22, v23, v24, v25, v26, _, _, v28, v29, v9, v10, rfl, hW, Free.of_set (by decide) l0, Free.of_set (by decide) l1, Free.of_set (by decide) l2, Free.of_set (by decide) l3, Free.of_set (by decide) l4, fun _ => rfl, fun _ => rfl, Free.of_set (by decide) l7, Free.of_set (by decide) l8, Free.of_set (by decide) l11, fun e => by obtain ⟨bn, cn, dn, q1, q2, q3, q4⟩ := ln (Free.back (by decide) e); exact ⟨bn, cn, dn, q1, q2, q3, fun e2 => q4 (Free.back (by decide) e2)⟩, fun e => Free.fore (by decide) (lp (Free.back (by decide) e))⟩)
            · refine Free.op rfl rfl (fun K hK => ?_)
              obtain rfl := l6 (hne 6 (by kernel_rfl))
              go_simp
              exact hK _ _ ((HI.out _ _ _).2 ⟨v22, v23, v24, v25, v26, v27, _, _, v29, v9, v10, rfl, hW, Free.of_set (by decide) l0, Free.of_set (by decide) l1, Free.of_set (by decide) l2, Free.of_set (by decide) l3, Free.of_set (by decide) l4, Free.of_set (by decide) l5, fun _ => rfl, fun _ => rfl, Free.of_set (by decide) l8, Free.of_set (by decide) l11, fun e => by obtain ⟨bn, cn, dn, q1, q2, q3, q4⟩ := ln (Free.back (by decide) e); exact ⟨bn, cn, dn, q1, q2, q3, fun e2 => q4 (Free.back (by decide) e2)⟩, fun e => Free.fore (by decide) (lp (Free.back (by decide) e))⟩)
            · refine Free.op rfl rfl (fun K hK => ?_)
              obtain rfl := l6 (hne 6 (by kernel_rfl))
              go_simp
              exact hK _ _ ((HI.out _ _ _).2 ⟨v22, v23, v24, v25, v26, v27, _, v28, _, v9, v10, rfl, hW, Free.of_set (by decide) l0, Free.of_set (by decide) l1, Free.of_set (by decide) l2, Free.of_set (by decide) l3, Free.of_set (by decide) l4, Free.of_set (by decide) l5, fun _ => rfl, Free.of_set (by decide) l7, fun _ => rfl, Free.of_set (by decide) l11, fun e => by obtain ⟨bn, cn, dn, q1, q2, q3, q4⟩ := ln (Free.back (by decide) e); exact ⟨bn, cn, dn, q1, q2, q3, fun e2 => q4 (Free.back (by decide) e2)⟩, fun e => Free.fore (by decide) (lp (Free.back (by decide) e))⟩)
            · have hs : listed.getD 10 false = false := by
                cases e : listed.getD 10 false
                · rfl
                · rw [Free.off hnl] at lp; cases lp e
              refine Free.op rfl rfl (fun K hK => ?_)
              go_simp
              exact hK _ _ ((HI.out _ _ _).2 ⟨v22, v23, v24, v25, v26, v27, v21, v28, v29, _, v10, rfl, hW.alloc hW.size _, Free.of_set (by decide) l0, Free.of_set (by decide) l1, Free.of_set (by decide) l2, Free.of_set (by decide) l3, Free.of_set (by decide) l4, Free.of_set (by decide) l5, Free.of_set (by decide) l6, Free.of_set (by decide) l7, Free.of_set (by decide) l8, Free.of_set (by decide) l11, fun _ => ⟨_, _, _, rfl, hW.size, Sp.new _ _ _, fun e => by rw [Free.set_other (by decide), hs] at e; cases e⟩, fun e => by rw [Free.set_other (by decide), hs] at e; cases e⟩)
            · have N := hid (hne 9 (by kernel_rfl))
              obtain ⟨bn, cn, dn, q1, q2, q3, q4⟩ := ln N.out
              subst q1
              have y1 := q3.fl
              have y2 := q3.fh
              have y3 := q3.lo
              have y4 := q3.hi
              refine Free.op rfl rfl (fun K hK => ?_)
              obtain rfl := l7 (hne 7 (by kernel_rfl))
              go_simp
              exact hK _ _ ((HI.out _ _ _).2 ⟨v22, v23, v24, v25, v26, v27, v21, _, v29, _, v10, rfl, (hW.setCell q2 _).setCell q2 _, Free.of_set (by decide) l0, Free.of_set (by decide) l1, Free.of_set (by decide) l2, Free.of_set (by decide) l3, Free.of_set (by decide) l4, Free.of_set (by decide) l5, Free.of_set (by decide) l6, fun _ => rfl, Free.of_set (by decide) l8, Free.of_set (by decide) l11, fun _ => ⟨_, _, _, rfl, q2, q3.set _ _, fun _ => ⟨rfl, rfl⟩⟩, fun _ => Free.fore (by decide) N.out⟩)
            · refine Free.op rfl rfl (fun K hK => ?_)
              obtain rfl := l8 (hne 8 (by kernel_rfl))
              go_simp
              exact hK _ _ ((HI.out _ _ _).2 ⟨v22, v23, v24, v25, v26, v27, v21, v28, _, v9, _, rfl, hW, Free.of_set (by decide) l0, Free.of_set (by decide) l1, Free.of_set (by decide) l2, Free.of_set (by decide) l3, Free.of_set (by decide) l4, Free.of_set (by decide) l5, Free.of_set (by decide) l6, Free.of_set (by decide) l7, fun _ => rfl, fun _ => rfl, fun e => by obtain ⟨bn, cn, dn, q1, q2, q3, q4⟩ := ln (Free.back (by decide) e); exact ⟨bn, cn, dn, q1, q2, q3, fun e2 => q4 (Free.back (by decide) e2)⟩, fun e => Free.fore (by decide) (lp (Free.back (by decide) e))⟩)
          case s3 =>
            intro listed aq W1 hall hsz hv
            obtain ⟨v22, v23, v24, v25, v26, v27, v21, v28, v29, v9, v10, rfl, hW, l0, l1, l2, l3, l4, l5, l6, l7, l8, l11, ln, lp⟩ := (HI.out _ _ _).1 hv
            clear hv HI
            obtain ⟨bn, cn, dn, rfl, hbn, hSn, q4⟩ := ln (Free.listed_of hall hsz 9 (by decide))
            obtain ⟨rfl, rfl⟩ := q4 (Free.listed_of hall hsz 10 (by decide))
            clear ln lp
            obtain rfl := l0 (Free.listed_of hall hsz 0 (by decide))
            obtain rfl := l1 (Free.listed_of hall hsz 1 (by decide))
            obtain rfl := l2 (Free.listed_of hall hsz 2 (by decide))
            obtain rfl := l3 (Free.listed_of hall hsz 3 (by decide))
            obtain rfl := l4 (Free.listed_of hall hsz 4 (by decide))
            obtain rfl := l5 (Free.listed_of hall hsz 5 (by decide))
            obtain rfl := l6 (Free.listed_of hall hsz 6 (by decide))
            obtain rfl := l7 (Free.listed_of hall hsz 7 (by decide))
            obtain rfl := l8 (Free.listed_of hall hsz 8 (by decide))
            obtain rfl := l11 (Free.listed_of hall hsz 11 (by decide))
            clear hall hsz
            have hF := hF0.add hW hSn hbn
            clear hF0 hW hSn hS hQc
            have x0l := (hF.at 0 rfl).lo
            have x0h := (hF.at 0 rfl).hi
            have x2l := (hF.at 2 rfl).lo
            have x2h := (hF.at 2 rfl).hi
            go_wp2_with (go_at_call 74; refine (HT _).out.mono ?_; rintro e wn ⟨rfl, hb⟩; replace hF := hF.step hb; clear hb; clear HT; clear x0l x0h x2l x2h; have y1 := (hF.at 2 rfl).fl; have y2 := (hF.at 2 rfl).fh; have y3 := (hF.at 2 rfl).lo; have y4 := (hF.at 2 rfl).hi; have y6 := (hF.at 2 rfl).r0; have y7 := (hF.at 2 rfl).r1)
            exact ⟨⟨k + 1, by omega, by simp, by rw [HM.out]; exact (hF.put 2 rfl _ _ rfl).drop.drop, by rw [HM.out]; exact HZ.out⟩, by simp [intOf]; omega⟩

        · have kR : (R.2.2 != 0) = true := by simpa using c2
          have e4 : R.2.2 = 4 := by rw [HRF.out.resolve_left c2]
          have HM2 := HPB (by rw [HM.out]; exact c2)
          have HM3 : Hid (Um.prodN t b b.length = (0, 0, R.2.2)) := by rw [HM2.out, e4]; exact hid rfl
          clear HPB HRF c2 HM HM2 e4
          have HM := HM3
          clear HM3
          go_wp2
          generalize wr.heap.size = Bs at *
          generalize wr.alloc (.cells #[.int .i64 C0, .int .i64 C1] 49) = W at *
          obtain ⟨Inv, hInv⟩ : ∃ Inv : Array Bool → Act → World → Prop, ∀ listed aq W', Inv listed aq W' ↔ (∃ v22 v23 v24 v25 v26 v27 v21 v28 v29 v9 v10 : Value, aq = { tmps := #[Value.agg #[Value.int IntKind.i64 t.fst, Value.int IntKind.i64 t.snd.fst, Value.int IntKind.i64 t.snd.snd.fst, Value.int IntKind.i64 t.snd.snd.snd], Value.slice (some { block := b2, off := off2 }) b.length cap2, Value.pointer (some { block := w.heap.size, off := 0 }), undef, Value.pointer (some { block := w.heap.size + 1, off := 0 }), u5, Value.pointer (some { block := B2, off := 0 }), Value.int IntKind.i64 ↑k, Value.pointer (some { block := Bs, off := 0 }), v9, v10, Value.pointer (some { block := w.heap.size, off := 0 }), Value.int IntKind.i64 t.fst, Value.agg #[Value.int IntKind.i64 t.fst, Value.int IntKind.i64 t.fst], Value.slice (some { block := b2, off := off2 }) b.length cap2, Value.int IntKind.i64 ↑b.length, Value.int IntKind.i64 ↑k, Value.bool true, Value.int IntKind.i64 ↑k, Value.pointer (some { block := b2, off := off2 + k * 2 }), Value.agg #[Value.int IntKind.i64 C0, Value.int IntKind.i64 C1], v21, v22, v23, v24, v25, v26, v27, v28, v29, u30, u31, u32, u33, u34, u35, u36, u37, u38, u39, u40, u41, u42, u43, u44, undef], defers := [] } ∧ Below (W).heap.size (W) W' ∧ (listed.getD 0 false = true → v22 = .agg #[.int .i64 C0, .int .i64 C1]) ∧ (listed.getD 1 false = true → v23 = Value.int IntKind.i64 ↑k) ∧ (listed.getD 2 false = true → v24 = .pointer (some ⟨w.heap.size, 1, none⟩)) ∧ (listed.getD 3 false = true → v25 = .pointer (some ⟨w.heap.size, 1 + k, none⟩)) ∧ (listed.getD 4 false = true → v26 = .int .i64 (Q)) ∧ (listed.getD 5 false = true → v27 = (.tuple #[.agg #[.int .i64 P.1, .int .i64 P.2.1], errV P.2.2])) ∧ (listed.getD 6 false = true → v21 = (.tuple #[.agg #[.int .i64 P.1, .int .i64 P.2.1], errV P.2.2])) ∧ (listed.getD 7 false = true → v28 = .agg #[.int .i64 P.1, .int .i64 P.2.1]) ∧ (listed.getD 8 false = true → v29 = errV P.2.2) ∧ (listed.getD 11 false = true → v10 = errV P.2.2) ∧ (listed.getD 9 false = true → ∃ (bn : Nat) (cn dn : Int), v9 = .pointer (some ⟨bn, 0, none⟩) ∧ (W).heap.size ≤ bn ∧ Sp W' bn cn dn ∧ (listed.getD 10 false = true → cn = P.1 ∧ dn = P.2.1)) ∧ (listed.getD 10 false = true → listed.getD 9 false = true)) := ⟨_, fun _ _ _ => Iff.rfl⟩
          have HI := hid hInv
          clear hInv
          refine Free.region hmx (by kernel_rfl) Inv ?s1 ?s2 ?s3
          case s1 =>
            exact (HI.out _ _ _).2 ⟨u22, u23, u24, u25, u26, u27, u21, u28, u29, u9, u10, rfl, (Below.refl _ _).drew, Free.not_yet, Free.not_yet, Free.not_yet, Free.not_yet, Free.not_yet, Free.not_yet, Free.not_yet, Free.not_yet, Free.not_yet, Free.not_yet, Free.not_yet, Free.not_yet⟩
          case s2 =>
            intro i listed aq W1 hix hne hnl hsz hv
            obtain ⟨v22, v23, v24, v25, v26, v27, v21, v28, v29, v9, v10, rfl, hW, l0, l1, l2, l3, l4, l5, l6, l7, l8, l11, ln, lp⟩ := (HI.out _ _ _).1 hv
            clear hv
            replace hix : i < 12 := hix
            replace hsz : listed.size = 12 := hsz
            rcases (by omega : i = 0 ∨ i = 1 ∨ i = 2 ∨ i = 3 ∨ i = 4 ∨ i = 5 ∨ i = 6 ∨ i = 7 ∨ i = 8 ∨ i = 9 ∨ i = 10 ∨ i = 11) with rfl | rfl | rfl | rfl | rfl | rfl | rfl | rfl | rfl | rfl | rfl | rfl
            · have z0 := (hS.step hW).lo
              have z1 := (hS.step hW).hi
              refine Free.op rfl rfl (fun K hK => ?_)
              go_simp
              exact hK _ _ ((HI.out _ _ _).2 ⟨_, v23, v24, v25, v26, v27, v21, v28, v29, v9, v10, rfl, hW, fun _ => rfl, Free.of_set (by decide) l1, Free.of_set (by decide) l2, Free.of_set (by decide) l3, Free.of_set (by decide) l4, Free.of_set (by decide) l5, Free.of_set (by decide) l6, Free.of_set (by decide) l7, Free.of_set (by decide) l8, Free.of_set (by decide) l11, fun e => by obtain ⟨bn, cn, dn, q1, q2, q3, q4⟩ := ln (Free.back (by decide) e); exact ⟨bn, cn, dn, q1, q2, q3, fun e2 => q4 (Free.back (by decide) e2)⟩, fun e => Free.fore (by decide) (lp (Free.back (by decide) e))⟩)
            · refine Free.op rfl rfl (fun K hK => ?_)
              go_simp
              exact hK _ _ ((HI.out _ _ _).2 ⟨v22, _, v24, v25, v26, v27, v21, v28, v29, v9, v10, rfl, hW, Free.of_set (by decide) l0, fun _ => rfl, Free.of_set (by decide) l2, Free.of_set (by decide) l3, Free.of_set (by decide) l4, Free.of_set (by decide) l5, Free.of_set (by decide) l6, Free.of_set (by decide) l7, Free.of_set (by decide) l8, Free.of_set (by decide) l11, fun e => by obtain ⟨bn, cn, dn, q1, q2, q3, q4⟩ := ln (Free.back (by decide) e); exact ⟨bn, cn, dn, q1, q2, q3, fun e2 => q4 (Free.back (by decide) e2)⟩, fun e => Free.fore (by decide) (lp (Free.back (by decide) e))⟩)
            · refine Free.op rfl rfl (fun K hK => ?_)
              go_simp
              exact hK _ _ ((HI.out _ _ _).2 ⟨v22, v23, _, v25, v26, v27, v21, v28, v29, v9, v10, rfl, hW, Free.of_set (by decide) l0, Free.of_set (by decide) l1, fun _ => rfl, Free.of_set (by decide) l3, Free.of_set (by decide) l4, Free.of_set (by decide) l5, Free.of_set (by decide) l6, Free.of_set (by decide) l7, Free.of_set (by decide) l8, Free.of_set (by decide) l11, fun e => by obtain ⟨bn, cn, dn, q1, q2, q3, q4⟩ := ln (Free.back (by decide) e); exact ⟨bn, cn, dn, q1, q2, q3, fun e2 => q4 (Free.back (by decide) e2)⟩, fun e => Free.fore (by decide) (lp (Free.back (by decide) e))⟩)
            · refine Free.op rfl rfl (fun K hK => ?_)
              obtain rfl := l1 (hne 1 (by kernel_rfl))
              obtain rfl := l2 (hne 2 (by kernel_rfl))
              go_simp
              exact hK _ _ ((HI.out _ _ _).2 ⟨v22, _, _, _, v26, v27, v21, v28, v29, v9, v10, rfl, hW, Free.of_set (by decide) l0, fun _ => rfl, fun _ => rfl, fun _ => rfl, Free.of_set (by decide) l4, Free.of_set (by decide) l5, Free.of_set (by decide) l6, Free.of_set (by decide) l7, Free.of_set (by decide) l8, Free.of_set (by decide) l11, fun e => by obtain ⟨bn, cn, dn, q1, q2, q3, q4⟩ := ln (Free.back (by decide) e); exact ⟨bn, cn, dn, q1, q2, q3, fun e2 => q4 (Free.back (by decide) e2)⟩, fun e => Free.fore (by decide) (lp (Free.back (by decide) e))⟩)
            · have z0 := (hW.cell (p := ⟨w.heap.size, 1 + k, none⟩) hTl).trans hQc
              refine Free.op rfl rfl (fun K hK => ?_)
              obtain rfl := l3 (hne 3 (by kernel_rfl))
              go_simp
              exact hK _ _ ((HI.out _ _ _).2 ⟨v22, v23, v24, _, _, v27, v21, v28, v29, v9, v10, rfl, hW, Free.of_set (by decide) l0, Free.of_set (by decide) l1, Free.of_set (by decide) l2, fun _ => rfl, fun _ => rfl, Free.of_set (by decide) l5, Free.of_set (by decide) l6, Free.of_set (by decide) l7, Free.of_set (by decide) l8, Free.of_set (by decide) l11, fun e => by obtain ⟨bn, cn, dn, q1, q2, q3, q4⟩ := ln (Free.back (by decide) e); exact ⟨bn, cn, dn, q1, q2, q3, fun e2 => q4 (Free.back (by decide) e2)⟩, fun e => Free.fore (by decide) (lp (Free.back (by decide) e))⟩)
            · refine Free.op rfl rfl (fun K hK => ?_)
              obtain rfl := l0 (hne 0 (by kernel_rfl))
              obtain rfl := l4 (hne 4 (by kernel_rfl))
              go_wp2_with (go_at_call 73; refine (HP _).out.mono ?_; rintro e W3 ⟨rfl, hb⟩)
              exact (HI.out _ _ _).2 ⟨_, v23, v24, v25, _, _, v21, v28, v29, v9, v10, rfl, hW.trans (hb.mono hW.size), fun _ => rfl, Free.of_set (by decide) l1, Free.of_set (by decide) l2, Free.of_set (by decide) l3, fun _ => rfl, fun _ => rfl, Free.of_set (by decide) l6, Free.of_set (by decide) l7, Free.of_set (by decide) l8, Free.of_set (by decide) l11, fun e => by obtain ⟨bn, cn, dn, q1, q2, q3, q4⟩ := ln (Free.back (by decide) e); exact ⟨bn, cn, dn, q1, q2, (q3.step hb), fun e2 => q4 (Free.back (by decide) e2)⟩, fun e => Free.fore (by decide) (lp (Free.back (by decide) e))⟩
            · refine Free.op rfl rfl (fun K hK => ?_)
              obtain rfl := l5 (hne 5 (by kernel_rfl))
              go_simp
              exact hK _ _ ((HI.out _ _ _).2 ⟨v22, v23, v24, v25, v26, _, _, v28, v29, v9, v10, rfl, hW, Free.of_set (by decide) l0, Free.of_set (by decide) l1, Free.of_set (by decide) l2, Free.of_set (by decide) l3, Free.of_set (by decide) l4, fun _ => rfl, fun _ => rfl, Free.of_set (by decide) l7, Free.of_set (by decide) l8, Free.of_set (by decide) l11, fun e => by obtain ⟨bn, cn, dn, q1, q2, q3, q4⟩ := ln (Free.back (by decide) e); exact ⟨bn, cn, dn, q1, q2, q3, fun e2 => q4 (Free.back (by decide) e2)⟩, fun e => Free.fore (by decide) (lp (Free.back (by decide) e))⟩)
            · refine Free.op rfl rfl (fun K hK => ?_)
              obtain rfl := l6 (hne 6 (by kernel_rfl))
              go_simp
              exact hK _ _ ((HI.out _ _ _).2 ⟨v22, v23, v24, v25, v26, v27, _, _, v29, v9, v10, rfl, hW, Free.of_set (by decide) l0, Free.of_set (by decide) l1, Free.of_set (by decide) l2, Free.of_set (by decide) l3, Free.of_set (by decide) l4, Free.of_set (by decide) l5, fun _ => rfl, fun _ => rfl, Free.of_set (by decide) l8, Free.of_set (by decide) l11, fun e => by obtain ⟨bn, cn, dn, q1, q2, q3, q4⟩ := ln (Free.back (by decide) e); exact ⟨bn, cn, dn, q1, q2, q3, fun e2 => q4 (Free.back (by decide) e2)⟩, fun e => Free.fore (by decide) (lp (Free.back (by decide) e))⟩)
            · refine Free.op rfl rfl (fun K hK => ?_)
              obtain rfl := l6 (hne 6 (by kernel_rfl))
              go_simp
              exact hK _ _ ((HI.out _ _ _).2 ⟨v22, v23, v24, v25, v26, v27, _, v28, _, v9, v10, rfl, hW, Free.of_set (by decide) l0, Free.of_set (by decide) l1, Free.of_set (by decide) l2, Free.of_set (by decide) l3, Free.of_set (by decide) l4, Free.of_set (by decide) l5, fun _ => rfl, Free.of_set (by decide) l7, fun _ => rfl, Free.of_set (by decide) l11, fun e => by obtain ⟨bn, cn, dn, q1, q2, q3, q4⟩ := ln (Free.back (by decide) e); exact ⟨bn, cn, dn, q1, q2, q3, fun e2 => q4 (Free.back (by decide) e2)⟩, fun e => Free.fore (by decide) (lp (Free.back (by decide) e))⟩)
            · have hs : listed.getD 10 false = false := by
                cases e : listed.getD 10 false
                · rfl
                · rw [Free.off hnl] at lp; cases lp e
              refine Free.op rfl rfl (fun K hK => ?_)
              go_simp
              exact hK _ _ ((HI.out _ _ _).2 ⟨v22, v23, v24, v25, v26, v27, v21, v28, v29, _, v10, rfl, hW.alloc hW.size _, Free.of_set (by decide) l0, Free.of_set (by decide) l1, Free.of_set (by decide) l2, Free.of_set (by decide) l3, Free.of_set (by decide) l4, Free.of_set (by decide) l5, Free.of_set (by decide) l6, Free.of_set (by decide) l7, Free.of_set (by decide) l8, Free.of_set (by decide) l11, fun _ => ⟨_, _, _, rfl, hW.size, Sp.new _ _ _, fun e => by rw [Free.set_other (by decide), hs] at e; cases e⟩, fun e => by rw [Free.set_other (by decide), hs] at e; cases e⟩)
            · have N := hid (hne 9 (by kernel_rfl))
              obtain ⟨bn, cn, dn, q1, q2, q3, q4⟩ := ln N.out
              subst q1
              have y1 := q3.fl
              have y2 := q3.fh
              have y3 := q3.lo
              have y4 := q3.hi
              refine Free.op rfl rfl (fun K hK => ?_)
              obtain rfl := l7 (hne 7 (by kernel_rfl))
              go_simp
              exact hK _ _ ((HI.out _ _ _).2 ⟨v22, v23, v24, v25, v26, v27, v21, _, v29, _, v10, rfl, (hW.setCell q2 _).setCell q2 _, Free.of_set (by decide) l0, Free.of_set (by decide) l1, Free.of_set (by decide) l2, Free.of_set (by decide) l3, Free.of_set (by decide) l4, Free.of_set (by decide) l5, Free.of_set (by decide) l6, fun _ => rfl, Free.of_set (by decide) l8, Free.of_set (by decide) l11, fun _ => ⟨_, _, _, rfl, q2, q3.set _ _, fun _ => ⟨rfl, rfl⟩⟩, fun _ => Free.fore (by decide) N.out⟩)
            · refine Free.op rfl rfl (fun K hK => ?_)
              obtain rfl := l8 (hne 8 (by kernel_rfl))
              go_simp
              exact hK _ _ ((HI.out _ _ _).2 ⟨v22, v23, v24, v25, v26, v27, v21, v28, _, v9, _, rfl, hW, Free.of_set (by decide) l0, Free.of_set (by decide) l1, Free.of_set (by decide) l2, Free.of_set (by decide) l3, Free.of_set (by decide) l4, Free.of_set (by decide) l5, Free.of_set (by decide) l6, Free.of_set (by decide) l7, fun _ => rfl, fun _ => rfl, fun e => by obtain ⟨bn, cn, dn, q1, q2, q3, q4⟩ := ln (Free.back (by decide) e); exact ⟨bn, cn, dn, q1, q2, q3, fun e2 => q4 (Free.back (by decide) e2)⟩, fun e => Free.fore (by decide) (lp (Free.back (by decide) e))⟩)
          case s3 =>
            intro listed aq W1 hall hsz hv
            obtain ⟨v22, v23, v24, v25, v26, v27, v21, v28, v29, v9, v10, rfl, hW, l0, l1, l2, l3, l4, l5, l6, l7, l8, l11, ln, lp⟩ := (HI.out _ _ _).1 hv
            clear hv HI
            obtain ⟨bn, cn, dn, rfl, hbn, hSn, q4⟩ := ln (Free.listed_of hall hsz 9 (by decide))
            obtain ⟨rfl, rfl⟩ := q4 (Free.listed_of hall hsz 10 (by decide))
            clear ln lp
            obtain rfl := l0 (Free.listed_of hall hsz 0 (by decide))
            obtain rfl := l1 (Free.listed_of hall hsz 1 (by decide))
            obtain rfl := l2 (Free.listed_of hall hsz 2 (by decide))
            obtain rfl := l3 (Free.listed_of hall hsz 3 (by decide))
            obtain rfl := l4 (Free.listed_of hall hsz 4 (by decide))
            obtain rfl := l5 (Free.listed_of hall hsz 5 (by decide))
            obtain rfl := l6 (Free.listed_of hall hsz 6 (by decide))
            obtain rfl := l7 (Free.listed_of hall hsz 7 (by decide))
            obtain rfl := l8 (Free.listed_of hall hsz 8 (by decide))
            obtain rfl := l11 (Free.listed_of hall hsz 11 (by decide))
            clear hall hsz
            have hF := hF0.add hW hSn hbn
            clear hF0 hW hSn hS hQc
            have x0l := (hF.at 0 rfl).lo
            have x0h := (hF.at 0 rfl).hi
            have x2l := (hF.at 2 rfl).lo
            have x2h := (hF.at 2 rfl).hi
            go_wp2_with (go_at_call 74; refine (HT _).out.mono ?_; rintro e wn ⟨rfl, hb⟩; replace hF := hF.step hb; clear hb; clear HT; clear x0l x0h x2l x2h; have y1 := (hF.at 2 rfl).fl; have y2 := (hF.at 2 rfl).fh; have y3 := (hF.at 2 rfl).lo; have y4 := (hF.at 2 rfl).hi; have y6 := (hF.at 2 rfl).r0; have y7 := (hF.at 2 rfl).r1; replace hF := hF.put 2 rfl R.1 R.2.1 rfl; have w1 := (hF.at 3 rfl).fl; have w2 := (hF.at 3 rfl).fh; have w3 := (hF.at 3 rfl).lo; have w4 := (hF.at 3 rfl).hi; have w6 := (hF.at 3 rfl).r0; have w7 := (hF.at 3 rfl).r1)
            refine bodyPost_ret (by simp [results, Tryz.results55, go_sem, w6, w7]; try rfl) rfl ?_
            rw [HM.out]
            exact ⟨rfl, HBW.out.trans ((hF.put 3 rfl _ _ rfl).below.mono HBW.out.size)⟩

      · have e4 : P.2.2 = 4 := by rw [HPF.out.resolve_left c]
        have HM2 := HPB (by rw [(HP4 c).out]; decide)
        have HM : Hid (Um.prodN t b b.length = (0, 0, P.2.2)) := by rw [HM2.out, e4]; exact hid rfl
        have kP : (P.2.2 != 0) = true := by simpa using c
        clear HPB HPC HPF HPN HP4 c HM2 e4 HCC
        go_wp2
        generalize wr.heap.size = Bs at *
        generalize wr.alloc (.cells #[.int .i64 C0, .int .i64 C1] 49) = W at *
        obtain ⟨Inv, hInv⟩ : ∃ Inv : Array Bool → Act → World → Prop, ∀ listed aq W', Inv listed aq W' ↔ (∃ v22 v23 v24 v25 v26 v27 v21 v28 v29 v9 v10 : Value, aq = { tmps := #[Value.agg #[Value.int IntKind.i64 t.fst, Value.int IntKind.i64 t.snd.fst, Value.int IntKind.i64 t.snd.snd.fst, Value.int IntKind.i64 t.snd.snd.snd], Value.slice (some { block := b2, off := off2 }) b.length cap2, Value.pointer (some { block := w.heap.size, off := 0 }), undef, Value.pointer (some { block := w.heap.size + 1, off := 0 }), u5, Value.pointer (some { block := B2, off := 0 }), Value.int IntKind.i64 ↑k, Value.pointer (some { block := Bs, off := 0 }), v9, v10, Value.pointer (some { block := w.heap.size, off := 0 }), Value.int IntKind.i64 t.fst, Value.agg #[Value.int IntKind.i64 t.fst, Value.int IntKind.i64 t.fst], Value.slice (some { block := b2, off := off2 }) b.length cap2, Value.int IntKind.i64 ↑b.length, Value.int IntKind.i64 ↑k, Value.bool true, Value.int IntKind.i64 ↑k, Value.pointer (some { block := b2, off := off2 + k * 2 }), Value.agg #[Value.int IntKind.i64 C0, Value.int IntKind.i64 C1], v21, v22, v23, v24, v25, v26, v27, v28, v29, u30, u31, u32, u33, u34, u35, u36, u37, u38, u39, u40, u41, u42, u43, u44, undef], defers := [] } ∧ Below (W).heap.size (W) W' ∧ (listed.getD 0 false = true → v22 = .agg #[.int .i64 C0, .int .i64 C1]) ∧ (listed.getD 1 false = true → v23 = Value.int IntKind.i64 ↑k) ∧ (listed.getD 2 false = true → v24 = .pointer (some ⟨w.heap.size, 1, none⟩)) ∧ (listed.getD 3 false = true → v25 = .pointer (some ⟨w.heap.size, 1 + k, none⟩)) ∧ (listed.getD 4 false = true → v26 = .int .i64 (Q)) ∧ (listed.getD 5 false = true → v27 = (.tuple #[.agg #[.int .i64 P.1, .int .i64 P.2.1], errV P.2.2])) ∧ (listed.getD 6 false = true → v21 = (.tuple #[.agg #[.int .i64 P.1, .int .i64 P.2.1], errV P.2.2])) ∧ (listed.getD 7 false = true → v28 = .agg #[.int .i64 P.1, .int .i64 P.2.1]) ∧ (listed.getD 8 false = true → v29 = errV P.2.2) ∧ (listed.getD 11 false = true → v10 = errV P.2.2) ∧ (listed.getD 9 false = true → ∃ (bn : Nat) (cn dn : Int), v9 = .pointer (some ⟨bn, 0, none⟩) ∧ (W).heap.size ≤ bn ∧ Sp W' bn cn dn ∧ (listed.getD 10 false = true → cn = P.1 ∧ dn = P.2.1)) ∧ (listed.getD 10 false = true → listed.getD 9 false = true)) := ⟨_, fun _ _ _ => Iff.rfl⟩
        have HI := hid hInv
        clear hInv
        refine Free.region hmx (by kernel_rfl) Inv ?s1 ?s2 ?s3
        case s1 =>
          exact (HI.out _ _ _).2 ⟨u22, u23, u24, u25, u26, u27, u21, u28, u29, u9, u10, rfl, (Below.refl _ _).drew, Free.not_yet, Free.not_yet, Free.not_yet, Free.not_yet, Free.not_yet, Free.not_yet, Free.not_yet, Free.not_yet, Free.not_yet, Free.not_yet, Free.not_yet, Free.not_yet⟩
        case s2 =>
          intro i listed aq W1 hix hne hnl hsz hv
          obtain ⟨v22, v23, v24, v25, v26, v27, v21, v28, v29, v9, v10, rfl, hW, l0, l1, l2, l3, l4, l5, l6, l7, l8, l11, ln, lp⟩ := (HI.out _ _ _).1 hv
          clear hv
          replace hix : i < 12 := hix
          replace hsz : listed.size = 12 := hsz
          rcases (by omega : i = 0 ∨ i = 1 ∨ i = 2 ∨ i = 3 ∨ i = 4 ∨ i = 5 ∨ i = 6 ∨ i = 7 ∨ i = 8 ∨ i = 9 ∨ i = 10 ∨ i = 11) with rfl | rfl | rfl | rfl | rfl | rfl | rfl | rfl | rfl | rfl | rfl | rfl
          · have z0 := (hS.step hW).lo
            have z1 := (hS.step hW).hi
            refine Free.op rfl rfl (fun K hK => ?_)
            go_simp
            exact hK _ _ ((HI.out _ _ _).2 ⟨_, v23, v24, v25, v26, v27, v21, v28, v29, v9, v10, rfl, hW, fun _ => rfl, Free.of_set (by decide) l1, Free.of_set (by decide) l2, Free.of_set (by decide) l3, Free.of_set (by decide) l4, Free.of_set (by decide) l5, Free.of_set (by decide) l6, Free.of_set (by decide) l7, Free.of_set (by decide) l8, Free.of_set (by decide) l11, fun e => by obtain ⟨bn, cn, dn, q1, q2, q3, q4⟩ := ln (Free.back (by decide) e); exact ⟨bn, cn, dn, q1, q2, q3, fun e2 => q4 (Free.back (by decide) e2)⟩, fun e => Free.fore (by decide) (lp (Free.back (by decide) e))⟩)
          · refine Free.op rfl rfl (fun K hK => ?_)
            go_simp
            exact hK _ _ ((HI.out _ _ _).2 ⟨v22, _, v24, v25, v26, v27, v21, v28, v29, v9, v10, rfl, hW, Free.of_set (by decide) l0, fun _ => rfl, Free.of_set (by decide) l2, Free.of_set (by decide) l3, Free.of_set (by decide) l4, Free.of_set (by decide) l5, Free.of_set (by decide) l6, Free.of_set (by decide) l7, Free.of_set (by decide) l8, Free.of_set (by decide) l11, fun e => by obtain ⟨bn, cn, dn, q1, q2, q3, q4⟩ := ln (Free.back (by decide) e); exact ⟨bn, cn, dn, q1, q2, q3, fun e2 => q4 (Free.back (by decide) e2)⟩, fun e => Free.fore (by decide) (lp (Free.back (by decide) e))⟩)
          · refine Free.op rfl rfl (fun K hK => ?_)
            go_simp
            exact hK _ _ ((HI.out _ _ _).2 ⟨v22, v23, _, v25, v26, v27, v21, v28, v29, v9, v10, rfl, hW, Free.of_set (by decide) l0, Free.of_set (by decide) l1, fun _ => rfl, Free.of_set (by decide) l3, Free.of_set (by decide) l4, Free.of_set (by decide) l5, Free.of_set (by decide) l6, Free.of_set (by decide) l7, Free.of_set (by decide) l8, Free.of_set (by decide) l11, fun e => by obtain ⟨bn, cn, dn, q1, q2, q3, q4⟩ := ln (Free.back (by decide) e); exact ⟨bn, cn, dn, q1, q2, q3, fun e2 => q4 (Free.back (by decide) e2)⟩, fun e => Free.fore (by decide) (lp (Free.back (by decide) e))⟩)
          · refine Free.op rfl rfl (fun K hK => ?_)
            obtain rfl := l1 (hne 1 (by kernel_rfl))
            obtain rfl := l2 (hne 2 (by kernel_rfl))
            go_simp
            exact hK _ _ ((HI.out _ _ _).2 ⟨v22, _, _, _, v26, v27, v21, v28, v29, v9, v10, rfl, hW, Free.of_set (by decide) l0, fun _ => rfl, fun _ => rfl, fun _ => rfl, Free.of_set (by decide) l4, Free.of_set (by decide) l5, Free.of_set (by decide) l6, Free.of_set (by decide) l7, Free.of_set (by decide) l8, Free.of_set (by decide) l11, fun e => by obtain ⟨bn, cn, dn, q1, q2, q3, q4⟩ := ln (Free.back (by decide) e); exact ⟨bn, cn, dn, q1, q2, q3, fun e2 => q4 (Free.back (by decide) e2)⟩, fun e => Free.fore (by decide) (lp (Free.back (by decide) e))⟩)
          · have z0 := (hW.cell (p := ⟨w.heap.size, 1 + k, none⟩) hTl).trans hQc
            refine Free.op rfl rfl (fun K hK => ?_)
            obtain rfl := l3 (hne 3 (by kernel_rfl))
            go_simp
            exact hK _ _ ((HI.out _ _ _).2 ⟨v22, v23, v24, _, _, v27, v21, v28, v29, v9, v10, rfl, hW, Free.of_set (by decide) l0, Free.of_set (by decide) l1, Free.of_set (by decide) l2, fun _ => rfl, fun _ => rfl, Free.of_set (by decide) l5, Free.of_set (by decide) l6, Free.of_set (by decide) l7, Free.of_set (by decide) l8, Free.of_set (by decide) l11, fun e => by obtain ⟨bn, cn, dn, q1, q2, q3, q4⟩ := ln (Free.back (by decide) e); exact ⟨bn, cn, dn, q1, q2, q3, fun e2 => q4 (Free.back (by decide) e2)⟩, fun e => Free.fore (by decide) (lp (Free.back (by decide) e))⟩)
          · refine Free.op rfl rfl (fun K hK => ?_)
            obtain rfl := l0 (hne 0 (by kernel_rfl))
            obtain rfl := l4 (hne 4 (by kernel_rfl))
            go_wp2_with (go_at_call 73; refine (HP _).out.mono ?_; rintro e W3 ⟨rfl, hb⟩)
            exact (HI.out _ _ _).2 ⟨_, v23, v24, v25, _, _, v21, v28, v29, v9, v10, rfl, hW.trans (hb.mono hW.size), fun _ => rfl, Free.of_set (by decide) l1, Free.of_set (by decide) l2, Free.of_set (by decide) l3, fun _ => rfl, fun _ => rfl, Free.of_set (by decide) l6, Free.of_set (by decide) l7, Free.of_set (by decide) l8, Free.of_set (by decide) l11, fun e => by obtain ⟨bn, cn, dn, q1, q2, q3, q4⟩ := ln (Free.back (by decide) e); exact ⟨bn, cn, dn, q1, q2, (q3.step hb), fun e2 => q4 (Free.back (by decide) e2)⟩, fun e => Free.fore (by decide) (lp (Free.back (by decide) e))⟩
          · refine Free.op rfl rfl (fun K hK => ?_)
            obtain rfl := l5 (hne 5 (by kernel_rfl))
            go_simp
            exact hK _ _ ((HI.out _ _ _).2 ⟨v22, v23, v24, v25, v26, _, _, v28, v29, v9, v10, rfl, hW, Free.of_set (by decide) l0, Free.of_set (by decide) l1, Free.of_set (by decide) l2, Free.of_set (by decide) l3, Free.of_set (by decide) l4, fun _ => rfl, fun _ => rfl, Free.of_set (by decide) l7, Free.of_set (by decide) l8, Free.of_set (by decide) l11, fun e => by obtain ⟨bn, cn, dn, q1, q2, q3, q4⟩ := ln (Free.back (by decide) e); exact ⟨bn, cn, dn, q1, q2, q3, fun e2 => q4 (Free.back (by decide) e2)⟩, fun e => Free.fore (by decide) (lp (Free.back (by decide) e))⟩)
          · refine Free.op rfl rfl (fun K hK => ?_)
            obtain rfl := l6 (hne 6 (by kernel_rfl))
            go_simp
            exact hK _ _ ((HI.out _ _ _).2 ⟨v22, v23, v24, v25, v26, v27, _, _, v29, v9, v10, rfl, hW, Free.of_set (by decide) l0, Free.of_set (by decide) l1, Free.of_set (by decide) l2, Free.of_set (by decide) l3, Free.of_set (by decide) l4, Free.of_set (by decide) l5, fun _ => rfl, fun _ => rfl, Free.of_set (by decide) l8, Free.of_set (by decide) l11, fun e => by obtain ⟨bn, cn, dn, q1, q2, q3, q4⟩ := ln (Free.back (by decide) e); exact ⟨bn, cn, dn, q1, q2, q3, fun e2 => q4 (Free.back (by decide) e2)⟩, fun e => Free.fore (by decide) (lp (Free.back (by decide) e))⟩)
          · refine Free.op rfl rfl (fun K hK => ?_)
            obtain rfl := l6 (hne 6 (by kernel_rfl))
            go_simp
            exact hK _ _ ((HI.out _ _ _).2 ⟨v22, v23, v24, v25, v26, v27, _, v28, _, v9, v10, rfl, hW, Free.of_set (by decide) l0, Free.of_set (by decide) l1, Free.of_set (by decide) l2, Free.of_set (by decide) l3, Free.of_set (by decide) l4, Free.of_set (by decide) l5, fun _ => rfl, Free.of_set (by decide) l7, fun _ => rfl, Free.of_set (by decide) l11, fun e => by obtain ⟨bn, cn, dn, q1, q2, q3, q4⟩ := ln (Free.back (by decide) e); exact ⟨bn, cn, dn, q1, q2, q3, fun e2 => q4 (Free.back (by decide) e2)⟩, fun e => Free.fore (by decide) (lp (Free.back (by decide) e))⟩)
          · have hs : listed.getD 10 false = false := by
              cases e : listed.getD 10 false
              · rfl
              · rw [Free.off hnl] at lp; cases lp e
            refine Free.op rfl rfl (fun K hK => ?_)
            go_simp
            exact hK _ _ ((HI.out _ _ _).2 ⟨v22, v23, v24, v25, v26, v27, v21, v28, v29, _, v10, rfl, hW.alloc hW.size _, Free.of_set (by decide) l0, Free.of_set (by decide) l1, Free.of_set (by decide) l2, Free.of_set (by decide) l3, Free.of_set (by decide) l4, Free.of_set (by decide) l5, Free.of_set (by decide) l6, Free.of_set (by decide) l7, Free.of_set (by decide) l8, Free.of_set (by decide) l11, fun _ => ⟨_, _, _, rfl, hW.size, Sp.new _ _ _, fun e => by rw [Free.set_other (by decide), hs] at e; cases e⟩, fun e => by rw [Free.set_other (by decide), hs] at e; cases e⟩)
          · have N := hid (hne 9 (by kernel_rfl))
            obtain ⟨bn, cn, dn, q1, q2, q3, q4⟩ := ln N.out
            subst q1
            have y1 := q3.fl
            have y2 := q3.fh
            have y3 := q3.lo
            have y4 := q3.hi
            refine Free.op rfl rfl (fun K hK => ?_)
            obtain rfl := l7 (hne 7 (by kernel_rfl))
            go_simp
            exact hK _ _ ((HI.out _ _ _).2 ⟨v22, v23, v24, v25, v26, v27, v21, _, v29, _, v10, rfl, (hW.setCell q2 _).setCell q2 _, Free.of_set (by decide) l0, Free.of_set (by decide) l1, Free.of_set (by decide) l2, Free.of_set (by decide) l3, Free.of_set (by decide) l4, Free.of_set (by decide) l5, Free.of_set (by decide) l6, fun _ => rfl, Free.of_set (by decide) l8, Free.of_set (by decide) l11, fun _ => ⟨_, _, _, rfl, q2, q3.set _ _, fun _ => ⟨rfl, rfl⟩⟩, fun _ => Free.fore (by decide) N.out⟩)
          · refine Free.op rfl rfl (fun K hK => ?_)
            obtain rfl := l8 (hne 8 (by kernel_rfl))
            go_simp
            exact hK _ _ ((HI.out _ _ _).2 ⟨v22, v23, v24, v25, v26, v27, v21, v28, _, v9, _, rfl, hW, Free.of_set (by decide) l0, Free.of_set (by decide) l1, Free.of_set (by decide) l2, Free.of_set (by decide) l3, Free.of_set (by decide) l4, Free.of_set (by decide) l5, Free.of_set (by decide) l6, Free.of_set (by decide) l7, fun _ => rfl, fun _ => rfl, fun e => by obtain ⟨bn, cn, dn, q1, q2, q3, q4⟩ := ln (Free.back (by decide) e); exact ⟨bn, cn, dn, q1, q2, q3, fun e2 => q4 (Free.back (by decide) e2)⟩, fun e => Free.fore (by decide) (lp (Free.back (by decide) e))⟩)
        case s3 =>
          intro listed aq W1 hall hsz hv
          obtain ⟨v22, v23, v24, v25, v26, v27, v21, v28, v29, v9, v10, rfl, hW, l0, l1, l2, l3, l4, l5, l6, l7, l8, l11, ln, lp⟩ := (HI.out _ _ _).1 hv
          clear hv HI
          obtain ⟨bn, cn, dn, rfl, hbn, hSn, q4⟩ := ln (Free.listed_of hall hsz 9 (by decide))
          obtain ⟨rfl, rfl⟩ := q4 (Free.listed_of hall hsz 10 (by decide))
          clear ln lp
          obtain rfl := l0 (Free.listed_of hall hsz 0 (by decide))
          obtain rfl := l1 (Free.listed_of hall hsz 1 (by decide))
          obtain rfl := l2 (Free.listed_of hall hsz 2 (by decide))
          obtain rfl := l3 (Free.listed_of hall hsz 3 (by decide))
          obtain rfl := l4 (Free.listed_of hall hsz 4 (by decide))
          obtain rfl := l5 (Free.listed_of hall hsz 5 (by decide))
          obtain rfl := l6 (Free.listed_of hall hsz 6 (by decide))
          obtain rfl := l7 (Free.listed_of hall hsz 7 (by decide))
          obtain rfl := l8 (Free.listed_of hall hsz 8 (by decide))
          obtain rfl := l11 (Free.listed_of hall hsz 11 (by decide))
          clear hall hsz
          have hF := hF0.add hW hSn hbn
          clear hF0 hW hSn hS hQc
          have y1 := (hF.at 3 rfl).fl
          have y2 := (hF.at 3 rfl).fh
          have y3 := (hF.at 3 rfl).lo
          have y4 := (hF.at 3 rfl).hi
          have y6 := (hF.at 3 rfl).r0
          have y7 := (hF.at 3 rfl).r1
          go_wp2
          refine bodyPost_ret (by simp [results, Tryz.results55, go_sem, y6, y7]; try rfl) rfl ?_
          rw [HM.out]
          exact ⟨rfl, HBW.out.trans ((hF.put 3 rfl _ _ rfl).below.mono HBW.out.size)⟩

    · obtain rfl : k = b.length := by omega
      have HM : Hid (Um.prodN t b b.length = ((Um.prodN t b b.length).1, (Um.prodN t b b.length).2.1, 0)) := by rw [← hK.out]; exact hid rfl
      have hF := hF0
      clear hK HP0 HBX hB0 HTT HKL hF0
      have x0l := (hF.at 0 rfl).lo
      have x0h := (hF.at 0 rfl).hi
      have y1 := (hF.at 1 rfl).fl
      have y2 := (hF.at 1 rfl).fh
      have y3 := (hF.at 1 rfl).lo
      have y4 := (hF.at 1 rfl).hi
      have y6 := (hF.at 1 rfl).r0
      have y7 := (hF.at 1 rfl).r1
      go_wp2
      refine bodyPost_ret (by simp [results, Tryz.results55, go_sem, y6, y7]; try rfl) rfl ?_
      rw [HM.out]
      exact ⟨rfl, HBW.out.trans ((hF.put 1 rfl _ _ rfl).below.mono HBW.out.size)⟩

set_option maxRecDepth 100000 in
set_option maxHeartbeats 4000000 in
theorem frange_box (f : List Um.Tm) (u : Value) (b : List (Int × Int)) (v : Value) (w : World) (hl : Lt w.heap.size w u f) (hs : Ls w.heap.size w v b) (h : ¬ Um.boxF b = 0) :
    Calls Tryz.prog 36 #[u, v] w fun e w' => e = .returned (.tuple #[.agg #[.int .i64 0, .int .i64 0], errV (Um.boxF b)]) ∧ Below w.heap.size w w' := by
  have v0 := errV_none
  have q1 := errG
  have q2 := errGn
  have q3 := errE
  have q4 := errN
  have hF := (Fr.start w).push (b := w.heap.size) 0 0 rfl
  have HB := fun w hs => hid (bcheck_any b v w hs)
  have k : (Um.boxF b != 0) = true := by simpa using h
  obtain ⟨a0, ca, rfl, -⟩ := (id hl)
  obtain ⟨b0, cb, rfl, -⟩ := (id hs)
  clear h
  generalize Um.boxF b = G at *
  go_enter Tryz.func36, Tryz.ntmps36
  go_wp2_with (go_at_call 45; refine (HB _ (hF.ls hs)).out.mono ?_; rintro e wn ⟨rfl, hb⟩; replace hF := hF.step hb; clear hb; have y1 := (hF.at 0 rfl).fl; have y2 := (hF.at 0 rfl).fh; have y3 := (hF.at 0 rfl).lo; have y4 := (hF.at 0 rfl).hi; have y6 := (hF.at 0 rfl).r0; have y7 := (hF.at 0 rfl).r1)
  refine bodyPost_ret (by simp [results, Tryz.results36, go_sem, y6, y7]; try rfl) rfl ?_
  exact ⟨rfl, (hF.put 0 rfl _ _ rfl).below⟩
set_option maxRecDepth 100000 in
set_option maxHeartbeats 4000000 in
theorem frange_form (f : List Um.Tm) (u : Value) (b : List (Int × Int)) (v : Value) (w : World) (hl : Lt w.heap.size w u f) (hs : Ls w.heap.size w v b) (h : Um.boxF b = 0) (h2 : ¬ Um.formF f b.length = 0) :
    Calls Tryz.prog 36 #[u, v] w fun e w' => e = .returned (.tuple #[.agg #[.int .i64 0, .int .i64 0], errV (Um.formF f b.length)]) ∧ Below w.heap.size w w' := by
  have v0 := errV_none
  have q1 := errG
  have q2 := errGn
  have q3 := errE
  have q4 := errN
  have hF := (Fr.start w).push (b := w.heap.size) 0 0 rfl
  have HB := fun w hs => hid (bcheck_any b v w hs)
  have HC := fun w hl => hid (fcheck_any f b.length u w hl)
  have k0 : (Um.boxF b != 0) = false := by simpa using h
  have k : (Um.formF f b.length != 0) = true := by simpa using h2
  obtain ⟨a0, ca, rfl, -⟩ := (id hl)
  obtain ⟨b0, cb, rfl, -⟩ := (id hs)
  clear h h2
  generalize Um.boxF b = G0 at *
  generalize Um.formF f b.length = G at *
  go_enter Tryz.func36, Tryz.ntmps36
  go_wp2_with (first | (go_at_call 45; refine (HB _ (hF.ls hs)).out.mono ?_; rintro e wn ⟨rfl, hb⟩; replace hF := hF.step hb; clear hb; clear HB) | (go_at_call 54; refine (HC _ (hF.lt hl)).out.mono ?_; rintro e wn ⟨rfl, hb⟩; replace hF := hF.step hb; clear hb; have y1 := (hF.at 0 rfl).fl; have y2 := (hF.at 0 rfl).fh; have y3 := (hF.at 0 rfl).lo; have y4 := (hF.at 0 rfl).hi; have y6 := (hF.at 0 rfl).r0; have y7 := (hF.at 0 rfl).r1))
  refine bodyPost_ret (by simp [results, Tryz.results36, go_sem, y6, y7]; try rfl) rfl ?_
  exact ⟨rfl, (hF.put 0 rfl _ _ rfl).below⟩
set_option maxRecDepth 100000 in
set_option maxHeartbeats 16000000 in
theorem frange_right (f : List Um.Tm) (u : Value) (b : List (Int × Int)) (v : Value) (w : World) (hl : Lt w.heap.size w u f) (hs : Ls w.heap.size w v b) (h : Um.boxF b = 0) (h2 : Um.formF f b.length = 0) :
    Calls Tryz.prog 36 #[u, v] w fun e w' => e = .returned (.tuple #[.agg #[.int .i64 (Um.frR f b).1, .int .i64 (Um.frR f b).2.1], errV (Um.frR f b).2.2]) ∧ Below w.heap.size w w' := by
  have v0 := errV_none
  have q1 := errG
  have q2 := errGn
  have q3 := errE
  have q4 := errN
  have hF := (Fr.start w).push (b := w.heap.size) 0 0 rfl
  have h6 := (Um.form_ok.1 h2).2.1
  have HTM := hid (Um.fr_terms h2)
  have HBX := hid h
  have HB := fun w hs => hid (bcheck_any b v w hs)
  have HC := fun w hl => hid (fcheck_any f b.length u w hl)
  have k0 : (Um.boxF b != 0) = false := by simpa using h
  have k : (Um.formF f b.length != 0) = false := by simpa using h2
  have HAl := fun w => hid (falone_any 0 w)
  have HOO := fun t w hs ht => hid (termOver_any t b v w hs ht h)
  obtain ⟨b0, cb, rfl, -⟩ := (id hs)
  obtain ⟨a0, ca, rfl, -, hor⟩ := (id hl)
  have HOR := hid hor
  clear h h2 hor
  generalize Um.boxF b = G0 at HB k0
  generalize Um.formF f b.length = G at HC k
  go_enter Tryz.func36, Tryz.ntmps36
  go_wp2_with (first | (go_at_call 45; refine (HB _ (hF.ls hs)).out.mono ?_; rintro e wn ⟨rfl, hb⟩; replace hF := hF.step hb; clear hb; clear HB) | (go_at_call 54; refine (HC _ (hF.lt hl)).out.mono ?_; rintro e wn ⟨rfl, hb⟩; replace hF := hF.step hb; clear hb; clear HC) | (go_at_call 42; refine (HAl _).out.mono ?_; rintro e wn ⟨rfl, hb⟩; replace hF := hF.step hb; clear hb; clear HAl; replace hF := hF.push 0 0 rfl))
  clear k0 k
  generalize wn.heap.size = B2 at *
  go_loopw [30] (fun i wr => ∃ n : Nat, n ≤ f.length ∧ i = .int .i64 n ∧ Fr w wr [(B2, (Um.sumN f b n).1, (Um.sumN f b n).2.1), (w.heap.size, 0, 0)] ∧ Hid ((Um.sumN f b n).2.2 = 0)) (fun i _ => f.length - (intOf i).toNat)
  case atStart => exact ⟨0, Nat.zero_le _, rfl, hF, rfl⟩
  case round =>
    clear hF
    obtain ⟨n, hn, rfl, hF, hZ⟩ := hrel
    by_cases hnl : n < f.length
    · have hnn : (n : Int) < (f.length : Int) := by omega
      rcases HOR.out with e | ⟨b1, off, rfl, hlt, hc⟩
      · rw [e] at hnl; simp at hnl
      have hT := (hc n hnl).keep hF.below hlt
      have z0 := hT.1
      have z1 := hT.2.1
      have z2 : wr.cell? ⟨b1, off + n * 4 + 2, none⟩ = _ := hT.2.2.1
      have z3 : wr.cell? ⟨b1, off + n * 4 + 3, none⟩ = _ := hT.2.2.2
      have HSC := hid (Um.sum_chk HTM.out HBX.out hn hZ.out)
      have HPC := fun h => hid (Um.prod_chk (HTM.out n hnl) HBX.out (Nat.le_refl _) h)
      have HPF := hid (Um.prod_fault (Um.tm f n) b b.length)
      have HFB := fun h => hid (sum_last (b := b) hnl h)
      have HSN := fun h => hid (show Um.sumN f b (n + 1) = Um.addR (Um.sumN f b n).1 (Um.sumN f b n).2.1 (Um.prodN (Um.tm f n) b b.length).1 (Um.prodN (Um.tm f n) b b.length).2.1 by rw [Um.sum_succ, if_pos hZ.out, if_pos h])
      have HS4 := fun (h : ¬ (Um.prodN (Um.tm f n) b b.length).2.2 = 0) => hid (show Um.sumN f b (n + 1) = (0, 0, 4) by rw [Um.sum_succ, if_pos hZ.out, if_neg h])
      have HO := fun w hs => HOO (Um.tm f n) w hs (HTM.out n hnl)
      have HAF := hid (Um.add_fault (Um.sumN f b n).1 (Um.sumN f b n).2.1 (Um.prodN (Um.tm f n) b b.length).1 (Um.prodN (Um.tm f n) b b.length).2.1)
      clear hc HOR HTM hT HBX HOO hZ
      generalize Um.tm f n = t at *
      generalize Um.sumN f b n = X at *
      generalize Um.prodN t b b.length = Y at *
      have hK := Blk.new wr 92 #[.int .i64 t.1, .int .i64 t.2.1, .int .i64 t.2.2.1, .int .i64 t.2.2.2]
      have c0 := hK.cell 0 rfl
      have c1 := hK.cell 1 rfl
      have c2 := hK.cell 2 rfl
      have c3 := hK.cell 3 rfl
      replace hF := hF.alloc (.cells #[.int .i64 t.1, .int .i64 t.2.1, .int .i64 t.2.2.1, .int .i64 t.2.2.2] 92)
      clear hK
      by_cases c : Y.2.2 = 0
      · have HD := fun w => by
          have := add_any X.1 X.2.1 Y.1 Y.2.1 w
          rw [made_right HSC.out (HPC c).out] at this
          exact hid this
        have HM := HSN c
        have kY : (Y.2.2 != 0) = false := by simpa using c
        clear HPC HPF HSN HS4 c HSC
        generalize Um.addR X.1 X.2.1 Y.1 Y.2.1 = R at *
        by_cases c : R.2.2 = 0
        · have kR : (R.2.2 != 0) = false := by simpa using c
          have HZ := hid c
          clear HFB HAF c
          go_wp2_with (first | (go_at_call 55; refine (HO _ (hF.ls hs)).out.mono ?_; rintro e wn ⟨rfl, hb⟩; replace hF := hF.step hb; clear hb; clear HO; replace hF := hF.push Y.1 Y.2.1 rfl; have x0l := (hF.at 0 rfl).lo; have x0h := (hF.at 0 rfl).hi; have x1l := (hF.at 1 rfl).lo; have x1h := (hF.at 1 rfl).hi) | (go_at_call 37; refine (HD _).out.mono ?_; rintro e wn ⟨rfl, hb⟩; replace hF := hF.step hb; clear hb; clear HD; clear x0l x0h x1l x1h; have y1 := (hF.at 1 rfl).fl; have y2 := (hF.at 1 rfl).fh; have y3 := (hF.at 1 rfl).lo; have y4 := (hF.at 1 rfl).hi; have y6 := (hF.at 1 rfl).r0; have y7 := (hF.at 1 rfl).r1))
          exact ⟨⟨n + 1, by omega, by simp, by rw [HM.out]; exact (hF.put 1 rfl _ _ rfl).drop, by rw [HM.out]; exact HZ.out⟩, by simp [intOf]; omega⟩
        · have kR : (R.2.2 != 0) = true := by simpa using c
          have e4 : R.2.2 = 4 := by rw [HAF.out.resolve_left c]
          have HM2 := HFB (by rw [HM.out]; exact c)
          have HM3 : Hid (Um.frR f b = (0, 0, R.2.2)) := by rw [HM2.out, e4]; exact hid rfl
          clear HFB HAF c HM HM2 e4
          go_wp2_with (first | (go_at_call 55; refine (HO _ (hF.ls hs)).out.mono ?_; rintro e wn ⟨rfl, hb⟩; replace hF := hF.step hb; clear hb; clear HO; replace hF := hF.push Y.1 Y.2.1 rfl; have x0l := (hF.at 0 rfl).lo; have x0h := (hF.at 0 rfl).hi; have x1l := (hF.at 1 rfl).lo; have x1h := (hF.at 1 rfl).hi) | (go_at_call 37; refine (HD _).out.mono ?_; rintro e wn ⟨rfl, hb⟩; replace hF := hF.step hb; clear hb; clear HD; clear x0l x0h x1l x1h; have y1 := (hF.at 1 rfl).fl; have y2 := (hF.at 1 rfl).fh; have y3 := (hF.at 1 rfl).lo; have y4 := (hF.at 1 rfl).hi; have y6 := (hF.at 1 rfl).r0; have y7 := (hF.at 1 rfl).r1; replace hF := hF.put 1 rfl R.1 R.2.1 rfl; have w1 := (hF.at 2 rfl).fl; have w2 := (hF.at 2 rfl).fh; have w3 := (hF.at 2 rfl).lo; have w4 := (hF.at 2 rfl).hi; have w6 := (hF.at 2 rfl).r0; have w7 := (hF.at 2 rfl).r1))
          refine bodyPost_ret (by simp [results, Tryz.results36, go_sem, w6, w7]; try rfl) rfl ?_
          rw [HM3.out]
          exact ⟨rfl, (hF.put 2 rfl _ _ rfl).below⟩
      · have kY : (Y.2.2 != 0) = true := by simpa using c
        have e4 : Y.2.2 = 4 := by rw [HPF.out.resolve_left c]
        have HM2 := HFB (by rw [(HS4 c).out]; decide)
        have HM3 : Hid (Um.frR f b = (0, 0, Y.2.2)) := by rw [HM2.out, e4]; exact hid rfl
        clear HFB HAF HPC HPF HSN HS4 c HSC HM2 e4
        go_wp2_with (go_at_call 55; refine (HO _ (hF.ls hs)).out.mono ?_; rintro e wn ⟨rfl, hb⟩; replace hF := hF.step hb; clear hb; clear HO; replace hF := hF.push Y.1 Y.2.1 rfl; have y1 := (hF.at 2 rfl).fl; have y2 := (hF.at 2 rfl).fh; have y3 := (hF.at 2 rfl).lo; have y4 := (hF.at 2 rfl).hi; have y6 := (hF.at 2 rfl).r0; have y7 := (hF.at 2 rfl).r1)
        refine bodyPost_ret (by simp [results, Tryz.results36, go_sem, y6, y7]; try rfl) rfl ?_
        rw [HM3.out]
        exact ⟨rfl, (hF.put 2 rfl _ _ rfl).below⟩
    · obtain rfl : n = f.length := by omega
      have HM : Hid (Um.frR f b = ((Um.sumN f b f.length).1, (Um.sumN f b f.length).2.1, 0)) := by rw [← hZ.out]; exact hid rfl
      clear HOR HTM HBX hZ HOO
      have x0l := (hF.at 0 rfl).lo
      have x0h := (hF.at 0 rfl).hi
      have y1 := (hF.at 1 rfl).fl
      have y2 := (hF.at 1 rfl).fh
      have y3 := (hF.at 1 rfl).lo
      have y4 := (hF.at 1 rfl).hi
      have y6 := (hF.at 1 rfl).r0
      have y7 := (hF.at 1 rfl).r1
      go_wp2
      refine bodyPost_ret (by simp [results, Tryz.results36, go_sem, y6, y7]; try rfl) rfl ?_
      rw [HM.out]
      exact ⟨rfl, (hF.put 1 rfl _ _ rfl).below⟩
theorem frange_any (f : List Um.Tm) (u : Value) (b : List (Int × Int)) (v : Value) (w : World) (hl : Lt w.heap.size w u f) (hs : Ls w.heap.size w v b) :
    Calls Tryz.prog 36 #[u, v] w fun e w' => e = .returned (.tuple #[.agg #[.int .i64 (Um.frAll f b).1, .int .i64 (Um.frAll f b).2.1], errV (Um.frAll f b).2.2]) ∧ Below w.heap.size w w' := by
  by_cases h : Um.boxF b = 0
  · by_cases h2 : Um.formF f b.length = 0
    · have e : Um.frAll f b = Um.frR f b := by unfold Um.frAll; rw [if_pos (Um.fr_ok.2 ⟨h, h2⟩)]
      rw [e]
      exact frange_right f u b v w hl hs h h2
    · have e : Um.frF f b = Um.formF f b.length := by unfold Um.frF; rw [if_pos h]
      have e' : Um.frAll f b = (0, 0, Um.formF f b.length) := by unfold Um.frAll; rw [e, if_neg h2]
      rw [e']
      exact frange_form f u b v w hl hs h h2
  · have e : Um.frF f b = Um.boxF b := by unfold Um.frF; rw [if_neg h]
    have e' : Um.frAll f b = (0, 0, Um.boxF b) := by unfold Um.frAll; rw [e, if_neg h]
    rw [e']
    exact frange_box f u b v w hl hs h
end Go.Proofs.YthgehlonjoafmaaGreatDoor
