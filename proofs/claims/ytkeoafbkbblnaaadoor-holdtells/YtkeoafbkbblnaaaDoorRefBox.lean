/-
  What the document's answer (package spanref1) to boxes that are right is: Has, Within, HullBox, MeetBox, Widest, Halve.
-/
import Derived.Test.YtkeoafbkbblnaaaDoorRefBoxC
import Derived.Test.YtkeoafbkbblnaaaDoorRefWide
import Derived.Test.YtkeoafbkbblnaaaDoorRefPow
import Derived.Test.YtkeoafbkbblnaaaDoorRefSplit
import Derived.Test.YtkeoafbkbblnaaaDoorBoxV
import Derived.Test.YtkeoafbkbblnaaaDoorBoxM
namespace Go.Proofs.YtkeoafbkbblnaaaDoor
set_option linter.unusedSimpArgs false
open Go.RowKit

set_option maxRecDepth 100000 in
set_option maxHeartbeats 4000000 in
theorem rWithin_any (a : List (Int × Int)) (v : Value) (q : List (Int × Int)) (u : Value) (w : World) (hs : Ls w.heap.size w v a) (hs2 : Ls w.heap.size w u q) (h : Um.boxesF a q = 0) :
    Calls Tryd.prog 18 #[v, u] w fun e w' => e = .returned (.bool (Um.withinB a q)) ∧ Below w.heap.size w w' := by
  obtain ⟨ha, hq, hlen⟩ := Um.boxes_ok.1 h
  have HL := hid hlen
  have hln := Um.box_len ha
  obtain ⟨b, off, cap, rfl, hcap, hA⟩ := hs.open (Um.box_ok.1 ha).1
  obtain ⟨b2, off2, cap2, rfl, hcap2, hQ⟩ := hs2.open (Um.box_ok.1 hq).1
  clear hs hs2 h ha hq hlen
  have hF := Fr.start w
  go_enter Tryd.func18, Tryd.ntmps18
  go_wp2
  go_loopw [5] (fun i wr => ∃ k : Nat, k ≤ a.length ∧ i = .int .i64 k ∧ Fr w wr [] ∧ Hid (∀ j, j < k → (Um.sd q j).1 ≤ (Um.sd a j).1 ∧ (Um.sd a j).2 ≤ (Um.sd q j).2)) (fun i _ => a.length - (intOf i).toNat)
  case atStart => exact ⟨0, Nat.zero_le _, rfl, hF, fun j hj => absurd hj (Nat.not_lt_zero _)⟩
  case round =>
    clear hF
    obtain ⟨k, hk, rfl, hF, hall⟩ := hrel
    by_cases hkl : k < a.length
    · have hkk : (k : Int) < (a.length : Int) := by omega
      have hk2 : (k : Int) < (q.length : Int) := by have := HL.out; omega
      have z0 := (hA.step hF.below).lo k (Um.sd_some hkl) rfl
      have z1 := (hA.step hF.below).hi k (Um.sd_some hkl) rfl
      have z2 := (hQ.step hF.below).lo k (Um.sd_some (show k < q.length by have := HL.out; omega)) rfl
      have z3 := (hQ.step hF.below).hi k (Um.sd_some (show k < q.length by have := HL.out; omega)) rfl
      have HY : Hid ((Um.sd q k).1 ≤ (Um.sd a k).1 ∧ (Um.sd a k).2 ≤ (Um.sd q k).2 → ∀ j, j < k + 1 → (Um.sd q j).1 ≤ (Um.sd a j).1 ∧ (Um.sd a j).2 ≤ (Um.sd q j).2) := by
        intro h j hj
        rcases (by omega : j < k ∨ j = k) with h2 | rfl
        · exact hall.out j h2
        · exact h
      have HZ : Hid (¬ ((Um.sd q k).1 ≤ (Um.sd a k).1 ∧ (Um.sd a k).2 ≤ (Um.sd q k).2) → Um.withinB a q = false) := fun h => decide_eq_false fun g => h (g k hkl)
      clear hall
      clear hA hQ
      generalize Um.sd a k = s at *
      generalize Um.sd q k = m at *
      obtain ⟨D0, D1⟩ := s
      obtain ⟨C0, C1⟩ := m
      simp only at z0 z1 z2 z3
      by_cases t1 : D0 < C0
      · have HM := hid (HZ.out (by simp only; omega))
        have d1 : decide (D0 < C0) = true := decide_eq_true t1
        clear HY HZ t1
        go_wp2
        go_quiet (fail)
        go_wp2
        go_returns
        rw [HM.out]
        exact ⟨rfl, (hF.drewN _).below⟩
      · have d1 : decide (D0 < C0) = false := decide_eq_false t1
        by_cases t2 : C1 < D1
        · have HM := hid (HZ.out (by simp only; omega))
          have d2 : decide (C1 < D1) = true := decide_eq_true t2
          clear HY HZ t1 t2
          go_wp2
          go_quiet (fail)
          go_wp2
          go_returns
          rw [HM.out]
          exact ⟨rfl, (hF.drewN _).below⟩
        · have HM := hid (HY.out (by simp only; omega))
          have d2 : decide (C1 < D1) = false := decide_eq_false t2
          clear HY HZ t1 t2
          go_wp2
          go_quiet (fail)
          go_wp2
          exact ⟨⟨k + 1, by omega, by simp, hF.drewN _, HM.out⟩, by simp [intOf]; omega⟩
    · obtain rfl : k = a.length := by omega
      have HM : Hid (Um.withinB a q = true) := decide_eq_true hall.out
      clear hall
      go_wp2
      go_returns
      rw [HM.out]
      exact ⟨rfl, hF.below⟩

set_option maxRecDepth 100000 in
set_option maxHeartbeats 8000000 in
theorem rHullBox_own (a b : List (Int × Int)) (u v : Value) (w : World) (hs1 : Ls w.heap.size w u a) (hs2 : Ls w.heap.size w v b) (h : Um.boxesF a b = 0) :
    Calls Tryd.prog 14 #[u, v] w fun e w' => ∃ r, e = .returned r ∧ w'.ownsRow w.heap.size 47 2 r (Um.hullN a b a.length).length (cellsOf (Um.hullN a b a.length)) ∧ Below w.heap.size w w' := by
  have hmx : Tryd.prog.follows .mixedOrders = true := by kernel_rfl
  obtain ⟨ha, hb, hl⟩ := Um.boxes_ok.1 h
  have hln := Um.box_len ha
  have HL := hid hl
  have HD := fun k w => hid (rHull_any (Um.sd a k).1 (Um.sd a k).2 (Um.sd b k).1 (Um.sd b k).2 w)
  obtain ⟨i0, hi0, hz0, hz1, hz2⟩ := info_parts info_spans
  obtain ⟨b1, off1, cap1, rfl, -, hA0⟩ := hs1.open (Um.box_ok.1 ha).1
  obtain ⟨b2, off2, cap2, rfl, -, hB0⟩ := hs2.open (Um.box_ok.1 hb).1
  clear h ha hb hl hs1 hs2
  go_enter Tryd.func14, Tryd.ntmps14
  go_wp2
  go_loopw [5, 6] (fun u i wr => ∃ k : Nat, k ≤ a.length ∧ i = .int .i64 k ∧ wr.ownsRow w.heap.size 47 2 u k (cellsOf (Um.hullN a b k)) ∧ Below w.heap.size w wr) (fun _ i _ => a.length - (intOf i).toNat)
  case atStart => exact ⟨0, Nat.zero_le _, rfl, World.ownsRow_nil _ _ _ _, Below.refl _ _⟩
  case round =>
    obtain ⟨k, hk, rfl, hown, hBe⟩ := hrel
    by_cases hkl : k < a.length
    · have hkk : (k : Int) < (a.length : Int) := by omega
      have hkk2 : (k : Int) < (b.length : Int) := by have := HL.out; omega
      have hA := hA0.step hBe
      have hB := hB0.step hBe
      have HR := fun w => HD k w
      have HA := hid (Um.sd_some hkl)
      have HB := hid (Um.sd_some (show k < b.length by have := HL.out; omega))
      have HM : Hid (Um.hullN a b (k + 1) = Um.hullN a b k ++ [((Um.hullR (Um.sd a k).1 (Um.sd a k).2 (Um.sd b k).1 (Um.sd b k).2).1, (Um.hullR (Um.sd a k).1 (Um.sd a k).2 (Um.sd b k).1 (Um.sd b k).2).2.1)]) := hid rfl
      clear HD hA0 hB0
      generalize Um.sd a k = s1 at *
      generalize Um.sd b k = s2 at *
      obtain ⟨A0, A1⟩ := s1
      obtain ⟨C0, C1⟩ := s2
      simp only at HR HM
      generalize Um.hullR A0 A1 C0 C1 = S at *
      go_wp2
      obtain ⟨Inv, hInv⟩ : ∃ Inv : Array Bool → Act → World → Prop, ∀ listed aq W', Inv listed aq W' ↔ (∃ v14 v15 v16 v17 v18 v19 v20 v21 v22 v7 : Value, aq = { tmps := #[Value.slice (some { block := b1, off := off1 }) a.length cap1, Value.slice (some { block := b2, off := off2 }) b.length cap2, undef, undef, Value.slice none 0 0, u5, Value.int IntKind.i64 ↑k, v7, Value.int IntKind.i64 ↑k, Value.slice (some { block := b1, off := off1 }) a.length cap1, Value.int IntKind.i64 ↑a.length, Value.bool true, u12, u13, v14, v15, v16, v17, v18, v19, v20, v21, v22, u23, u24, u25, u26, undef], defers := [] } ∧ Below (wr).heap.size (wr) W' ∧ (listed.getD 0 false = true → v14 = Value.slice (some { block := b1, off := off1 }) a.length cap1) ∧ (listed.getD 1 false = true → v15 = Value.int IntKind.i64 ↑k) ∧ (listed.getD 2 false = true → v16 = .pointer (some ⟨b1, off1 + k * 2, none⟩)) ∧ (listed.getD 3 false = true → v17 = .agg #[.int .i64 A0, .int .i64 A1]) ∧ (listed.getD 4 false = true → v18 = Value.slice (some { block := b2, off := off2 }) b.length cap2) ∧ (listed.getD 5 false = true → v19 = Value.int IntKind.i64 ↑k) ∧ (listed.getD 6 false = true → v20 = .pointer (some ⟨b2, off2 + k * 2, none⟩)) ∧ (listed.getD 7 false = true → v21 = .agg #[.int .i64 C0, .int .i64 C1]) ∧ (listed.getD 8 false = true → v22 = .agg #[.int .i64 S.1, .int .i64 S.2.1]) ∧ (listed.getD 9 false = true → ∃ (bn : Nat) (cn dn : Int), v7 = .pointer (some ⟨bn, 0, none⟩) ∧ (wr).heap.size ≤ bn ∧ Sp W' bn cn dn ∧ (listed.getD 10 false = true → cn = S.1 ∧ dn = S.2.1)) ∧ (listed.getD 10 false = true → listed.getD 9 false = true)) := ⟨_, fun _ _ _ => Iff.rfl⟩
      have HI := hid hInv
      clear hInv
      refine Free.region hmx (by kernel_rfl) Inv ?s1 ?s2 ?s3
      case s1 =>
        exact (HI.out _ _ _).2 ⟨u14, u15, u16, u17, u18, u19, u20, u21, u22, u7, rfl, (Below.refl _ _).drew, Free.not_yet, Free.not_yet, Free.not_yet, Free.not_yet, Free.not_yet, Free.not_yet, Free.not_yet, Free.not_yet, Free.not_yet, Free.not_yet, Free.not_yet⟩
      case s2 =>
        intro i listed aq W1 hix hne hnl hsz hv
        obtain ⟨v14, v15, v16, v17, v18, v19, v20, v21, v22, v7, rfl, hW, l0, l1, l2, l3, l4, l5, l6, l7, l8, ln, lp⟩ := (HI.out _ _ _).1 hv
        clear hv
        replace hix : i < 11 := hix
        replace hsz : listed.size = 11 := hsz
        rcases (by omega : i = 0 ∨ i = 1 ∨ i = 2 ∨ i = 3 ∨ i = 4 ∨ i = 5 ∨ i = 6 ∨ i = 7 ∨ i = 8 ∨ i = 9 ∨ i = 10) with rfl | rfl | rfl | rfl | rfl | rfl | rfl | rfl | rfl | rfl | rfl
        · refine Free.op rfl rfl (fun K hK => ?_)
          go_simp
          exact hK _ _ ((HI.out _ _ _).2 ⟨_, v15, v16, v17, v18, v19, v20, v21, v22, v7, rfl, hW, fun _ => rfl, Free.of_set (by decide) l1, Free.of_set (by decide) l2, Free.of_set (by decide) l3, Free.of_set (by decide) l4, Free.of_set (by decide) l5, Free.of_set (by decide) l6, Free.of_set (by decide) l7, Free.of_set (by decide) l8, fun e => by obtain ⟨bn, cn, dn, q1, q2, q3, q4⟩ := ln (Free.back (by decide) e); exact ⟨bn, cn, dn, q1, q2, q3, fun e2 => q4 (Free.back (by decide) e2)⟩, fun e => Free.fore (by decide) (lp (Free.back (by decide) e))⟩)
        · refine Free.op rfl rfl (fun K hK => ?_)
          go_simp
          exact hK _ _ ((HI.out _ _ _).2 ⟨v14, _, v16, v17, v18, v19, v20, v21, v22, v7, rfl, hW, Free.of_set (by decide) l0, fun _ => rfl, Free.of_set (by decide) l2, Free.of_set (by decide) l3, Free.of_set (by decide) l4, Free.of_set (by decide) l5, Free.of_set (by decide) l6, Free.of_set (by decide) l7, Free.of_set (by decide) l8, fun e => by obtain ⟨bn, cn, dn, q1, q2, q3, q4⟩ := ln (Free.back (by decide) e); exact ⟨bn, cn, dn, q1, q2, q3, fun e2 => q4 (Free.back (by decide) e2)⟩, fun e => Free.fore (by decide) (lp (Free.back (by decide) e))⟩)
        · refine Free.op rfl rfl (fun K hK => ?_)
          obtain rfl := l0 (hne 0 (by kernel_rfl))
          obtain rfl := l1 (hne 1 (by kernel_rfl))
          go_simp
          exact hK _ _ ((HI.out _ _ _).2 ⟨_, _, _, v17, v18, v19, v20, v21, v22, v7, rfl, hW, fun _ => rfl, fun _ => rfl, fun _ => rfl, Free.of_set (by decide) l3, Free.of_set (by decide) l4, Free.of_set (by decide) l5, Free.of_set (by decide) l6, Free.of_set (by decide) l7, Free.of_set (by decide) l8, fun e => by obtain ⟨bn, cn, dn, q1, q2, q3, q4⟩ := ln (Free.back (by decide) e); exact ⟨bn, cn, dn, q1, q2, q3, fun e2 => q4 (Free.back (by decide) e2)⟩, fun e => Free.fore (by decide) (lp (Free.back (by decide) e))⟩)
        · have z0 := (hA.step hW).lo k HA.out rfl
          have z1 := (hA.step hW).hi k HA.out rfl
          refine Free.op rfl rfl (fun K hK => ?_)
          obtain rfl := l2 (hne 2 (by kernel_rfl))
          go_simp
          exact hK _ _ ((HI.out _ _ _).2 ⟨v14, v15, _, _, v18, v19, v20, v21, v22, v7, rfl, hW, Free.of_set (by decide) l0, Free.of_set (by decide) l1, fun _ => rfl, fun _ => rfl, Free.of_set (by decide) l4, Free.of_set (by decide) l5, Free.of_set (by decide) l6, Free.of_set (by decide) l7, Free.of_set (by decide) l8, fun e => by obtain ⟨bn, cn, dn, q1, q2, q3, q4⟩ := ln (Free.back (by decide) e); exact ⟨bn, cn, dn, q1, q2, q3, fun e2 => q4 (Free.back (by decide) e2)⟩, fun e => Free.fore (by decide) (lp (Free.back (by decide) e))⟩)
        · refine Free.op rfl rfl (fun K hK => ?_)
          go_simp
          exact hK _ _ ((HI.out _ _ _).2 ⟨v14, v15, v16, v17, _, v19, v20, v21, v22, v7, rfl, hW, Free.of_set (by decide) l0, Free.of_set (by decide) l1, Free.of_set (by decide) l2, Free.of_set (by decide) l3, fun _ => rfl, Free.of_set (by decide) l5, Free.of_set (by decide) l6, Free.of_set (by decide) l7, Free.of_set (by decide) l8, fun e => by obtain ⟨bn, cn, dn, q1, q2, q3, q4⟩ := ln (Free.back (by decide) e); exact ⟨bn, cn, dn, q1, q2, q3, fun e2 => q4 (Free.back (by decide) e2)⟩, fun e => Free.fore (by decide) (lp (Free.back (by decide) e))⟩)
        · refine Free.op rfl rfl (fun K hK => ?_)
          go_simp
          exact hK _ _ ((HI.out _ _ _).2 ⟨v14, v15, v16, v17, v18, _, v20, v21, v22, v7, rfl, hW, Free.of_set (by decide) l0, Free.of_set (by decide) l1, Free.of_set (by decide) l2, Free.of_set (by decide) l3, Free.of_set (by decide) l4, fun _ => rfl, Free.of_set (by decide) l6, Free.of_set (by decide) l7, Free.of_set (by decide) l8, fun e => by obtain ⟨bn, cn, dn, q1, q2, q3, q4⟩ := ln (Free.back (by decide) e); exact ⟨bn, cn, dn, q1, q2, q3, fun e2 => q4 (Free.back (by decide) e2)⟩, fun e => Free.fore (by decide) (lp (Free.back (by decide) e))⟩)
        · refine Free.op rfl rfl (fun K hK => ?_)
          obtain rfl := l4 (hne 4 (by kernel_rfl))
          obtain rfl := l5 (hne 5 (by kernel_rfl))
          go_simp
          exact hK _ _ ((HI.out _ _ _).2 ⟨v14, v15, v16, v17, _, _, _, v21, v22, v7, rfl, hW, Free.of_set (by decide) l0, Free.of_set (by decide) l1, Free.of_set (by decide) l2, Free.of_set (by decide) l3, fun _ => rfl, fun _ => rfl, fun _ => rfl, Free.of_set (by decide) l7, Free.of_set (by decide) l8, fun e => by obtain ⟨bn, cn, dn, q1, q2, q3, q4⟩ := ln (Free.back (by decide) e); exact ⟨bn, cn, dn, q1, q2, q3, fun e2 => q4 (Free.back (by decide) e2)⟩, fun e => Free.fore (by decide) (lp (Free.back (by decide) e))⟩)
        · have z0 := (hB.step hW).lo k HB.out rfl
          have z1 := (hB.step hW).hi k HB.out rfl
          refine Free.op rfl rfl (fun K hK => ?_)
          obtain rfl := l6 (hne 6 (by kernel_rfl))
          go_simp
          exact hK _ _ ((HI.out _ _ _).2 ⟨v14, v15, v16, v17, v18, v19, _, _, v22, v7, rfl, hW, Free.of_set (by decide) l0, Free.of_set (by decide) l1, Free.of_set (by decide) l2, Free.of_set (by decide) l3, Free.of_set (by decide) l4, Free.of_set (by decide) l5, fun _ => rfl, fun _ => rfl, Free.of_set (by decide) l8, fun e => by obtain ⟨bn, cn, dn, q1, q2, q3, q4⟩ := ln (Free.back (by decide) e); exact ⟨bn, cn, dn, q1, q2, q3, fun e2 => q4 (Free.back (by decide) e2)⟩, fun e => Free.fore (by decide) (lp (Free.back (by decide) e))⟩)
        · refine Free.op rfl rfl (fun K hK => ?_)
          obtain rfl := l3 (hne 3 (by kernel_rfl))
          obtain rfl := l7 (hne 7 (by kernel_rfl))
          go_wp2_with (go_at_call 37; refine (HR _).out.mono ?_; rintro e W3 ⟨rfl, hb⟩)
          exact (HI.out _ _ _).2 ⟨v14, v15, v16, _, v18, v19, v20, _, _, v7, rfl, hW.trans (hb.mono hW.size), Free.of_set (by decide) l0, Free.of_set (by decide) l1, Free.of_set (by decide) l2, fun _ => rfl, Free.of_set (by decide) l4, Free.of_set (by decide) l5, Free.of_set (by decide) l6, fun _ => rfl, fun _ => rfl, fun e => by obtain ⟨bn, cn, dn, q1, q2, q3, q4⟩ := ln (Free.back (by decide) e); exact ⟨bn, cn, dn, q1, q2, (q3.step hb), fun e2 => q4 (Free.back (by decide) e2)⟩, fun e => Free.fore (by decide) (lp (Free.back (by decide) e))⟩
        · have hs : listed.getD 10 false = false := by
            cases e : listed.getD 10 false
            · rfl
            · rw [Free.off hnl] at lp; cases lp e
          refine Free.op rfl rfl (fun K hK => ?_)
          go_simp
          exact hK _ _ ((HI.out _ _ _).2 ⟨v14, v15, v16, v17, v18, v19, v20, v21, v22, _, rfl, hW.alloc hW.size _, Free.of_set (by decide) l0, Free.of_set (by decide) l1, Free.of_set (by decide) l2, Free.of_set (by decide) l3, Free.of_set (by decide) l4, Free.of_set (by decide) l5, Free.of_set (by decide) l6, Free.of_set (by decide) l7, Free.of_set (by decide) l8, fun _ => ⟨_, _, _, rfl, hW.size, Sp.new _ _ _, fun e => by rw [Free.set_other (by decide), hs] at e; cases e⟩, fun e => by rw [Free.set_other (by decide), hs] at e; cases e⟩)
        · have N := hid (hne 9 (by kernel_rfl))
          obtain ⟨bn, cn, dn, q1, q2, q3, q4⟩ := ln N.out
          subst q1
          have y1 := q3.fl
          have y2 := q3.fh
          have y3 := q3.lo
          have y4 := q3.hi
          refine Free.op rfl rfl (fun K hK => ?_)
          obtain rfl := l8 (hne 8 (by kernel_rfl))
          go_simp
          exact hK _ _ ((HI.out _ _ _).2 ⟨v14, v15, v16, v17, v18, v19, v20, v21, _, _, rfl, (hW.setCell q2 _).setCell q2 _, Free.of_set (by decide) l0, Free.of_set (by decide) l1, Free.of_set (by decide) l2, Free.of_set (by decide) l3, Free.of_set (by decide) l4, Free.of_set (by decide) l5, Free.of_set (by decide) l6, Free.of_set (by decide) l7, fun _ => rfl, fun _ => ⟨_, _, _, rfl, q2, q3.set _ _, fun _ => ⟨rfl, rfl⟩⟩, fun _ => Free.fore (by decide) N.out⟩)
      case s3 =>
        intro listed aq W1 hall hsz hv
        obtain ⟨v14, v15, v16, v17, v18, v19, v20, v21, v22, v7, rfl, hW, l0, l1, l2, l3, l4, l5, l6, l7, l8, ln, lp⟩ := (HI.out _ _ _).1 hv
        clear hv HI
        obtain ⟨bn, cn, dn, rfl, hbn, hSn, q4⟩ := ln (Free.listed_of hall hsz 9 (by decide))
        obtain ⟨rfl, rfl⟩ := q4 (Free.listed_of hall hsz 10 (by decide))
        clear ln lp
        obtain rfl := l0 (Free.listed_of hall hsz 0 (by decide))
        obtain rfl := l1 (Free.listed_of hall hsz 1 (by decide))
        obtain rfl := l2 (Free.listed_of hall hsz 2 (by decide))
        obtain rfl := l3 (Free.listed_of hall hsz 3 (by decide))
        obtain rfl := l4 (Free.listed_of hall hsz 4 (by decide))
        obtain rfl := l5 (Free.listed_of hall hsz 5 (by decide))
        obtain rfl := l6 (Free.listed_of hall hsz 6 (by decide))
        obtain rfl := l7 (Free.listed_of hall hsz 7 (by decide))
        obtain rfl := l8 (Free.listed_of hall hsz 8 (by decide))
        clear hall hsz
        have y1 := hSn.lo
        have y2 := hSn.hi
        have hown1 := owns_step hown hW
        have hB1 := hBe.trans (hW.mono hBe.size)
        have hsz := hB1.size
        have HO := hid hown1
        have HBE := hid hB1
        clear hown hBe hB1 hA hB
        go_wp2_with (at_builtin; refine wpList_append_own _ rfl _ _ 23 rfl w.heap.size 47 i0 (.agg #[.int .i64 0, .int .i64 0]) 2 16 Tryd.underlying23 hi0 hz0 hz1 hz2 rfl (by decide) _ _ _ rfl (hown1.alloc _) _ 1 1 [.int .i64 S.1, .int .i64 S.2.1] rfl rfl (cell_two_new _ _ _ _) (by simp [Value.oneCell']) (by unfold maxLen; omega) (by omega) (by simp; omega) ?_; intro v' w1 hown' hgrow _)
        have HN := hid hown'
        have hb2 := (Below.refl w.heap.size (W1.alloc (.cells #[.int .i64 S.1, .int .i64 S.2.1] 47))).grown hgrow (by simp; omega) (fun j e => owns_from HO.out j e)
        exact ⟨⟨k + 1, by omega, by simp, by rw [HM.out, cellsOf_append]; exact HN.out, (HBE.out.alloc hsz _).trans hb2⟩, by simp [intOf]; omega⟩

    · obtain rfl : k = a.length := by omega
      have HQ := hid hown
      clear hown HD hA0 hB0
      go_wp2
      go_returns
      exact ⟨_, rfl, by rw [Um.hull_length]; exact HQ.out, hBe⟩
theorem rHullBox_any (a b : List (Int × Int)) (u v : Value) (w : World) (hs1 : Ls w.heap.size w u a) (hs2 : Ls w.heap.size w v b) (h : Um.boxesF a b = 0) :
    Calls Tryd.prog 14 #[u, v] w fun e w' => ∃ r, e = .returned r ∧ Ls w'.heap.size w' r (Um.hullN a b a.length) ∧ Below w.heap.size w w' := by
  refine (rHullBox_own a b u v w hs1 hs2 h).mono ?_
  rintro e w' ⟨r, h1, h2, h3⟩
  exact ⟨r, h1, ls_owns h2, h3⟩

set_option maxRecDepth 100000 in
set_option maxHeartbeats 8000000 in
theorem rMeetBox_any (a b : List (Int × Int)) (u v : Value) (w : World) (hs1 : Ls w.heap.size w u a) (hs2 : Ls w.heap.size w v b) (h : Um.boxesF a b = 0) :
    Calls Tryd.prog 23 #[u, v] w fun e w' => ∃ r, e = .returned (.tuple #[r, .int .i64 (Um.meetN a b a.length).2]) ∧ Ls w'.heap.size w' r (Um.meetN a b a.length).1 ∧ Below w.heap.size w w' := by
  have hmx : Tryd.prog.follows .mixedOrders = true := by kernel_rfl
  obtain ⟨ha, hb, hl⟩ := Um.boxes_ok.1 h
  have hln := Um.box_len ha
  have HL := hid hl
  have HD := fun k w => hid (rMeet_any (Um.sd a k).1 (Um.sd a k).2 (Um.sd b k).1 (Um.sd b k).2 w)
  obtain ⟨i0, hi0, hz0, hz1, hz2⟩ := info_parts info_spans
  obtain ⟨b1, off1, cap1, rfl, -, hA0⟩ := hs1.open (Um.box_ok.1 ha).1
  obtain ⟨b2, off2, cap2, rfl, -, hB0⟩ := hs2.open (Um.box_ok.1 hb).1
  clear h ha hb hl hs1 hs2
  go_enter Tryd.func23, Tryd.ntmps23
  go_wp2
  go_loopw [6, 7] (fun u i wr => ∃ k : Nat, k ≤ a.length ∧ i = .int .i64 k ∧ wr.ownsRow w.heap.size 47 2 u k (cellsOf (Um.meetN a b k).1) ∧ Below w.heap.size w wr ∧ Hid ((Um.meetN a b k).2 = 0)) (fun _ i _ => a.length - (intOf i).toNat)
  case atStart => exact ⟨0, Nat.zero_le _, rfl, World.ownsRow_nil _ _ _ _, Below.refl _ _, rfl⟩
  case round =>
    obtain ⟨k, hk, rfl, hown, hBe, hZ⟩ := hrel
    by_cases hkl : k < a.length
    · have hkk : (k : Int) < (a.length : Int) := by omega
      have hkk2 : (k : Int) < (b.length : Int) := by have := HL.out; omega
      have hA := hA0.step hBe
      have hB := hB0.step hBe
      have HR := fun w => HD k w
      have HA := hid (Um.sd_some hkl)
      have HB := hid (Um.sd_some (show k < b.length by have := HL.out; omega))
      by_cases hc : max (Um.sd a k).1 (Um.sd b k).1 ≤ min (Um.sd a k).2 (Um.sd b k).2
      · have HM := hid (Um.meetN_next hZ.out hc)
        rw [Um.meet_yes hc] at HR
        clear HD hA0 hB0 hc
        generalize Um.sd a k = s1 at *
        generalize Um.sd b k = s2 at *
        obtain ⟨A0, A1⟩ := s1
        obtain ⟨C0, C1⟩ := s2
        simp only at HR HM
        generalize max A0 C0 = L0 at *
        generalize min A1 C1 = L1 at *
        obtain ⟨S, hS⟩ : ∃ S : Int × Int × Int, S = (L0, L1, 0) := ⟨_, rfl⟩
        have hS0 : S.2.2 = 0 := by rw [hS]
        have kS : (S.2.2 != 0) = false := by simpa using hS0
        have HR' := fun w => by
          have := (HR w).out
          rw [show L0 = S.1 by rw [hS], show L1 = S.2.1 by rw [hS], show (0 : Int) = S.2.2 by rw [hS]] at this
          exact hid this
        rw [show L0 = S.1 by rw [hS], show L1 = S.2.1 by rw [hS]] at HM
        clear HR hS hS0
        have HR := HR'
        clear HR'
        go_wp2
        obtain ⟨Inv, hInv⟩ : ∃ Inv : Array Bool → Act → World → Prop, ∀ listed aq W', Inv listed aq W' ↔ (∃ v17 v18 v19 v20 v21 v22 v23 v24 v25 v16 v26 v27 v8 v9 : Value, aq = { tmps := #[Value.slice (some { block := b1, off := off1 }) a.length cap1, Value.slice (some { block := b2, off := off2 }) b.length cap2, undef, undef, u4, u5, u6, Value.int IntKind.i64 ↑k, v8, v9, Value.int IntKind.i64 ↑k, Value.slice (some { block := b1, off := off1 }) a.length cap1, Value.int IntKind.i64 ↑a.length, Value.bool true, u14, u15, v16, v17, v18, v19, v20, v21, v22, v23, v24, v25, v26, v27, u28, u29, u30, u31, u32, u33, u34, undef], defers := [] } ∧ Below (wr).heap.size (wr) W' ∧ (listed.getD 0 false = true → v17 = Value.slice (some { block := b1, off := off1 }) a.length cap1) ∧ (listed.getD 1 false = true → v18 = Value.int IntKind.i64 ↑k) ∧ (listed.getD 2 false = true → v19 = .pointer (some ⟨b1, off1 + k * 2, none⟩)) ∧ (listed.getD 3 false = true → v20 = .agg #[.int .i64 A0, .int .i64 A1]) ∧ (listed.getD 4 false = true → v21 = Value.slice (some { block := b2, off := off2 }) b.length cap2) ∧ (listed.getD 5 false = true → v22 = Value.int IntKind.i64 ↑k) ∧ (listed.getD 6 false = true → v23 = .pointer (some ⟨b2, off2 + k * 2, none⟩)) ∧ (listed.getD 7 false = true → v24 = .agg #[.int .i64 C0, .int .i64 C1]) ∧ (listed.getD 8 false = true → v25 = (.tuple #[.agg #[.int .i64 S.1, .int .i64 S.2.1], .int .i64 S.2.2])) ∧ (listed.getD 9 false = true → v16 = (.tuple #[.agg #[.int .i64 S.1, .int .i64 S.2.1], .int .i64 S.2.2])) ∧ (listed.getD 10 false = true → v26 = .agg #[.int .i64 S.1, .int .i64 S.2.1]) ∧ (listed.getD 11 false = true → v27 = .int .i64 S.2.2) ∧ (listed.getD 14 false = true → v9 = .int .i64 S.2.2) ∧ (listed.getD 12 false = true → ∃ (bn : Nat) (cn dn : Int), v8 = .pointer (some ⟨bn, 0, none⟩) ∧ (wr).heap.size ≤ bn ∧ Sp W' bn cn dn ∧ (listed.getD 13 false = true → cn = S.1 ∧ dn = S.2.1)) ∧ (listed.getD 13 false = true → listed.getD 12 false = true)) := ⟨_, fun _ _ _ => Iff.rfl⟩
        have HI := hid hInv
        clear hInv
        refine Free.region hmx (by kernel_rfl) Inv ?s1 ?s2 ?s3
        case s1 =>
          exact (HI.out _ _ _).2 ⟨u17, u18, u19, u20, u21, u22, u23, u24, u25, u16, u26, u27, u8, u9, rfl, (Below.refl _ _).drew, Free.not_yet, Free.not_yet, Free.not_yet, Free.not_yet, Free.not_yet, Free.not_yet, Free.not_yet, Free.not_yet, Free.not_yet, Free.not_yet, Free.not_yet, Free.not_yet, Free.not_yet, Free.not_yet, Free.not_yet⟩
        case s2 =>
          intro i listed aq W1 hix hne hnl hsz hv
          obtain ⟨v17, v18, v19, v20, v21, v22, v23, v24, v25, v16, v26, v27, v8, v9, rfl, hW, l0, l1, l2, l3, l4, l5, l6, l7, l8, l9, l10, l11, l14, ln, lp⟩ := (HI.out _ _ _).1 hv
          clear hv
          replace hix : i < 15 := hix
          replace hsz : listed.size = 15 := hsz
          rcases (by omega : i = 0 ∨ i = 1 ∨ i = 2 ∨ i = 3 ∨ i = 4 ∨ i = 5 ∨ i = 6 ∨ i = 7 ∨ i = 8 ∨ i = 9 ∨ i = 10 ∨ i = 11 ∨ i = 12 ∨ i = 13 ∨ i = 14) with rfl | rfl | rfl | rfl | rfl | rfl | rfl | rfl | rfl | rfl | rfl | rfl | rfl | rfl | rfl
          · refine Free.op rfl rfl (fun K hK => ?_)
            go_simp
            exact hK _ _ ((HI.out _ _ _).2 ⟨_, v18, v19, v20, v21, v22, v23, v24, v25, v16, v26, v27, v8, v9, rfl, hW, fun _ => rfl, Free.of_set (by decide) l1, Free.of_set (by decide) l2, Free.of_set (by decide) l3, Free.of_set (by decide) l4, Free.of_set (by decide) l5, Free.of_set (by decide) l6, Free.of_set (by decide) l7, Free.of_set (by decide) l8, Free.of_set (by decide) l9, Free.of_set (by decide) l10, Free.of_set (by decide) l11, Free.of_set (by decide) l14, fun e => by obtain ⟨bn, cn, dn, q1, q2, q3, q4⟩ := ln (Free.back (by decide) e); exact ⟨bn, cn, dn, q1, q2, q3, fun e2 => q4 (Free.back (by decide) e2)⟩, fun e => Free.fore (by decide) (lp (Free.back (by decide) e))⟩)
          · refine Free.op rfl rfl (fun K hK => ?_)
            go_simp
            exact hK _ _ ((HI.out _ _ _).2 ⟨v17, _, v19, v20, v21, v22, v23, v24, v25, v16, v26, v27, v8, v9, rfl, hW, Free.of_set (by decide) l0, fun _ => rfl, Free.of_set (by decide) l2, Free.of_set (by decide) l3, Free.of_set (by decide) l4, Free.of_set (by decide) l5, Free.of_set (by decide) l6, Free.of_set (by decide) l7, Free.of_set (by decide) l8, Free.of_set (by decide) l9, Free.of_set (by decide) l10, Free.of_set (by decide) l11, Free.of_set (by decide) l14, fun e => by obtain ⟨bn, cn, dn, q1, q2, q3, q4⟩ := ln (Free.back (by decide) e); exact ⟨bn, cn, dn, q1, q2, q3, fun e2 => q4 (Free.back (by decide) e2)⟩, fun e => Free.fore (by decide) (lp (Free.back (by decide) e))⟩)
          · refine Free.op rfl rfl (fun K hK => ?_)
            obtain rfl := l0 (hne 0 (by kernel_rfl))
            obtain rfl := l1 (hne 1 (by kernel_rfl))
            go_simp
            exact hK _ _ ((HI.out _ _ _).2 ⟨_, _, _, v20, v21, v22, v23, v24, v25, v16, v26, v27, v8, v9, rfl, hW, fun _ => rfl, fun _ => rfl, fun _ => rfl, Free.of_set (by decide) l3, Free.of_set (by decide) l4, Free.of_set (by decide) l5, Free.of_set (by decide) l6, Free.of_set (by decide) l7, Free.of_set (by decide) l8, Free.of_set (by decide) l9, Free.of_set (by decide) l10, Free.of_set (by decide) l11, Free.of_set (by decide) l14, fun e => by obtain ⟨bn, cn, dn, q1, q2, q3, q4⟩ := ln (Free.back (by decide) e); exact ⟨bn, cn, dn, q1, q2, q3, fun e2 => q4 (Free.back (by decide) e2)⟩, fun e => Free.fore (by decide) (lp (Free.back (by decide) e))⟩)
          · have z0 := (hA.step hW).lo k HA.out rfl
            have z1 := (hA.step hW).hi k HA.out rfl
            refine Free.op rfl rfl (fun K hK => ?_)
            obtain rfl := l2 (hne 2 (by kernel_rfl))
            go_simp
            exact hK _ _ ((HI.out _ _ _).2 ⟨v17, v18, _, _, v21, v22, v23, v24, v25, v16, v26, v27, v8, v9, rfl, hW, Free.of_set (by decide) l0, Free.of_set (by decide) l1, fun _ => rfl, fun _ => rfl, Free.of_set (by decide) l4, Free.of_set (by decide) l5, Free.of_set (by decide) l6, Free.of_set (by decide) l7, Free.of_set (by decide) l8, Free.of_set (by decide) l9, Free.of_set (by decide) l10, Free.of_set (by decide) l11, Free.of_set (by decide) l14, fun e => by obtain ⟨bn, cn, dn, q1, q2, q3, q4⟩ := ln (Free.back (by decide) e); exact ⟨bn, cn, dn, q1, q2, q3, fun e2 => q4 (Free.back (by decide) e2)⟩, fun e => Free.fore (by decide) (lp (Free.back (by decide) e))⟩)
          · refine Free.op rfl rfl (fun K hK => ?_)
            go_simp
            exact hK _ _ ((HI.out _ _ _).2 ⟨v17, v18, v19, v20, _, v22, v23, v24, v25, v16, v26, v27, v8, v9, rfl, hW, Free.of_set (by decide) l0, Free.of_set (by decide) l1, Free.of_set (by decide) l2, Free.of_set (by decide) l3, fun _ => rfl, Free.of_set (by decide) l5, Free.of_set (by decide) l6, Free.of_set (by decide) l7, Free.of_set (by decide) l8, Free.of_set (by decide) l9, Free.of_set (by decide) l10, Free.of_set (by decide) l11, Free.of_set (by decide) l14, fun e => by obtain ⟨bn, cn, dn, q1, q2, q3, q4⟩ := ln (Free.back (by decide) e); exact ⟨bn, cn, dn, q1, q2, q3, fun e2 => q4 (Free.back (by decide) e2)⟩, fun e => Free.fore (by decide) (lp (Free.back (by decide) e))⟩)
          · refine Free.op rfl rfl (fun K hK => ?_)
            go_simp
            exact hK _ _ ((HI.out _ _ _).2 ⟨v17, v18, v19, v20, v21, _, v23, v24, v25, v16, v26, v27, v8, v9, rfl, hW, Free.of_set (by decide) l0, Free.of_set (by decide) l1, Free.of_set (by decide) l2, Free.of_set (by decide) l3, Free.of_set (by decide) l4, fun _ => rfl, Free.of_set (by decide) l6, Free.of_set (by decide) l7, Free.of_set (by decide) l8, Free.of_set (by decide) l9, Free.of_set (by decide) l10, Free.of_set (by decide) l11, Free.of_set (by decide) l14, fun e => by obtain ⟨bn, cn, dn, q1, q2, q3, q4⟩ := ln (Free.back (by decide) e); exact ⟨bn, cn, dn, q1, q2, q3, fun e2 => q4 (Free.back (by decide) e2)⟩, fun e => Free.fore (by decide) (lp (Free.back (by decide) e))⟩)
          · refine Free.op rfl rfl (fun K hK => ?_)
            obtain rfl := l4 (hne 4 (by kernel_rfl))
            obtain rfl := l5 (hne 5 (by kernel_rfl))
            go_simp
            exact hK _ _ ((HI.out _ _ _).2 ⟨v17, v18, v19, v20, _, _, _, v24, v25, v16, v26, v27, v8, v9, rfl, hW, Free.of_set (by decide) l0, Free.of_set (by decide) l1, Free.of_set (by decide) l2, Free.of_set (by decide) l3, fun _ => rfl, fun _ => rfl, fun _ => rfl, Free.of_set (by decide) l7, Free.of_set (by decide) l8, Free.of_set (by decide) l9, Free.of_set (by decide) l10, Free.of_set (by decide) l11, Free.of_set (by decide) l14, fun e => by obtain ⟨bn, cn, dn, q1, q2, q3, q4⟩ := ln (Free.back (by decide) e); exact ⟨bn, cn, dn, q1, q2, q3, fun e2 => q4 (Free.back (by decide) e2)⟩, fun e => Free.fore (by decide) (lp (Free.back (by decide) e))⟩)
          · have z0 := (hB.step hW).lo k HB.out rfl
            have z1 := (hB.step hW).hi k HB.out rfl
            refine Free.op rfl rfl (fun K hK => ?_)
            obtain rfl := l6 (hne 6 (by kernel_rfl))
            go_simp
            exact hK _ _ ((HI.out _ _ _).2 ⟨v17, v18, v19, v20, v21, v22, _, _, v25, v16, v26, v27, v8, v9, rfl, hW, Free.of_set (by decide) l0, Free.of_set (by decide) l1, Free.of_set (by decide) l2, Free.of_set (by decide) l3, Free.of_set (by decide) l4, Free.of_set (by decide) l5, fun _ => rfl, fun _ => rfl, Free.of_set (by decide) l8, Free.of_set (by decide) l9, Free.of_set (by decide) l10, Free.of_set (by decide) l11, Free.of_set (by decide) l14, fun e => by obtain ⟨bn, cn, dn, q1, q2, q3, q4⟩ := ln (Free.back (by decide) e); exact ⟨bn, cn, dn, q1, q2, q3, fun e2 => q4 (Free.back (by decide) e2)⟩, fun e => Free.fore (by decide) (lp (Free.back (by decide) e))⟩)
          · refine Free.op rfl rfl (fun K hK => ?_)
            obtain rfl := l3 (hne 3 (by kernel_rfl))
            obtain rfl := l7 (hne 7 (by kernel_rfl))
            go_wp2_with (go_at_call 43; refine (HR _).out.mono ?_; rintro e W3 ⟨rfl, hb⟩)
            exact (HI.out _ _ _).2 ⟨v17, v18, v19, _, v21, v22, v23, _, _, v16, v26, v27, v8, v9, rfl, hW.trans (hb.mono hW.size), Free.of_set (by decide) l0, Free.of_set (by decide) l1, Free.of_set (by decide) l2, fun _ => rfl, Free.of_set (by decide) l4, Free.of_set (by decide) l5, Free.of_set (by decide) l6, fun _ => rfl, fun _ => rfl, Free.of_set (by decide) l9, Free.of_set (by decide) l10, Free.of_set (by decide) l11, Free.of_set (by decide) l14, fun e => by obtain ⟨bn, cn, dn, q1, q2, q3, q4⟩ := ln (Free.back (by decide) e); exact ⟨bn, cn, dn, q1, q2, (q3.step hb), fun e2 => q4 (Free.back (by decide) e2)⟩, fun e => Free.fore (by decide) (lp (Free.back (by decide) e))⟩
          · refine Free.op rfl rfl (fun K hK => ?_)
            obtain rfl := l8 (hne 8 (by kernel_rfl))
            go_simp
            exact hK _ _ ((HI.out _ _ _).2 ⟨v17, v18, v19, v20, v21, v22, v23, v24, _, _, v26, v27, v8, v9, rfl, hW, Free.of_set (by decide) l0, Free.of_set (by decide) l1, Free.of_set (by decide) l2, Free.of_set (by decide) l3, Free.of_set (by decide) l4, Free.of_set (by decide) l5, Free.of_set (by decide) l6, Free.of_set (by decide) l7, fun _ => rfl, fun _ => rfl, Free.of_set (by decide) l10, Free.of_set (by decide) l11, Free.of_set (by decide) l14, fun e => by obtain ⟨bn, cn, dn, q1, q2, q3, q4⟩ := ln (Free.back (by decide) e); exact ⟨bn, cn, dn, q1, q2, q3, fun e2 => q4 (Free.back (by decide) e2)⟩, fun e => Free.fore (by decide) (lp (Free.back (by decide) e))⟩)
          · refine Free.op rfl rfl (fun K hK => ?_)
            obtain rfl := l9 (hne 9 (by kernel_rfl))
            go_simp
            exact hK _ _ ((HI.out _ _ _).2 ⟨v17, v18, v19, v20, v21, v22, v23, v24, v25, _, _, v27, v8, v9, rfl, hW, Free.of_set (by decide) l0, Free.of_set (by decide) l1, Free.of_set (by decide) l2, Free.of_set (by decide) l3, Free.of_set (by decide) l4, Free.of_set (by decide) l5, Free.of_set (by decide) l6, Free.of_set (by decide) l7, Free.of_set (by decide) l8, fun _ => rfl, fun _ => rfl, Free.of_set (by decide) l11, Free.of_set (by decide) l14, fun e => by obtain ⟨bn, cn, dn, q1, q2, q3, q4⟩ := ln (Free.back (by decide) e); exact ⟨bn, cn, dn, q1, q2, q3, fun e2 => q4 (Free.back (by decide) e2)⟩, fun e => Free.fore (by decide) (lp (Free.back (by decide) e))⟩)
          · refine Free.op rfl rfl (fun K hK => ?_)
            obtain rfl := l9 (hne 9 (by kernel_rfl))
            go_simp
            exact hK _ _ ((HI.out _ _ _).2 ⟨v17, v18, v19, v20, v21, v22, v23, v24, v25, _, v26, _, v8, v9, rfl, hW, Free.of_set (by decide) l0, Free.of_set (by decide) l1, Free.of_set (by decide) l2, Free.of_set (by decide) l3, Free.of_set (by decide) l4, Free.of_set (by decide) l5, Free.of_set (by decide) l6, Free.of_set (by decide) l7, Free.of_set (by decide) l8, fun _ => rfl, Free.of_set (by decide) l10, fun _ => rfl, Free.of_set (by decide) l14, fun e => by obtain ⟨bn, cn, dn, q1, q2, q3, q4⟩ := ln (Free.back (by decide) e); exact ⟨bn, cn, dn, q1, q2, q3, fun e2 => q4 (Free.back (by decide) e2)⟩, fun e => Free.fore (by decide) (lp (Free.back (by decide) e))⟩)
          · have hs : listed.getD 13 false = false := by
              cases e : listed.getD 13 false
              · rfl
              · rw [Free.off hnl] at lp; cases lp e
            refine Free.op rfl rfl (fun K hK => ?_)
            go_simp
            exact hK _ _ ((HI.out _ _ _).2 ⟨v17, v18, v19, v20, v21, v22, v23, v24, v25, v16, v26, v27, _, v9, rfl, hW.alloc hW.size _, Free.of_set (by decide) l0, Free.of_set (by decide) l1, Free.of_set (by decide) l2, Free.of_set (by decide) l3, Free.of_set (by decide) l4, Free.of_set (by decide) l5, Free.of_set (by decide) l6, Free.of_set (by decide) l7, Free.of_set (by decide) l8, Free.of_set (by decide) l9, Free.of_set (by decide) l10, Free.of_set (by decide) l11, Free.of_set (by decide) l14, fun _ => ⟨_, _, _, rfl, hW.size, Sp.new _ _ _, fun e => by rw [Free.set_other (by decide), hs] at e; cases e⟩, fun e => by rw [Free.set_other (by decide), hs] at e; cases e⟩)
          · have N := hid (hne 12 (by kernel_rfl))
            obtain ⟨bn, cn, dn, q1, q2, q3, q4⟩ := ln N.out
            subst q1
            have y1 := q3.fl
            have y2 := q3.fh
            have y3 := q3.lo
            have y4 := q3.hi
            refine Free.op rfl rfl (fun K hK => ?_)
            obtain rfl := l10 (hne 10 (by kernel_rfl))
            go_simp
            exact hK _ _ ((HI.out _ _ _).2 ⟨v17, v18, v19, v20, v21, v22, v23, v24, v25, v16, _, v27, _, v9, rfl, (hW.setCell q2 _).setCell q2 _, Free.of_set (by decide) l0, Free.of_set (by decide) l1, Free.of_set (by decide) l2, Free.of_set (by decide) l3, Free.of_set (by decide) l4, Free.of_set (by decide) l5, Free.of_set (by decide) l6, Free.of_set (by decide) l7, Free.of_set (by decide) l8, Free.of_set (by decide) l9, fun _ => rfl, Free.of_set (by decide) l11, Free.of_set (by decide) l14, fun _ => ⟨_, _, _, rfl, q2, q3.set _ _, fun _ => ⟨rfl, rfl⟩⟩, fun _ => Free.fore (by decide) N.out⟩)
          · refine Free.op rfl rfl (fun K hK => ?_)
            obtain rfl := l11 (hne 11 (by kernel_rfl))
            go_simp
            exact hK _ _ ((HI.out _ _ _).2 ⟨v17, v18, v19, v20, v21, v22, v23, v24, v25, v16, v26, _, v8, _, rfl, hW, Free.of_set (by decide) l0, Free.of_set (by decide) l1, Free.of_set (by decide) l2, Free.of_set (by decide) l3, Free.of_set (by decide) l4, Free.of_set (by decide) l5, Free.of_set (by decide) l6, Free.of_set (by decide) l7, Free.of_set (by decide) l8, Free.of_set (by decide) l9, Free.of_set (by decide) l10, fun _ => rfl, fun _ => rfl, fun e => by obtain ⟨bn, cn, dn, q1, q2, q3, q4⟩ := ln (Free.back (by decide) e); exact ⟨bn, cn, dn, q1, q2, q3, fun e2 => q4 (Free.back (by decide) e2)⟩, fun e => Free.fore (by decide) (lp (Free.back (by decide) e))⟩)
        case s3 =>
          intro listed aq W1 hall hsz hv
          obtain ⟨v17, v18, v19, v20, v21, v22, v23, v24, v25, v16, v26, v27, v8, v9, rfl, hW, l0, l1, l2, l3, l4, l5, l6, l7, l8, l9, l10, l11, l14, ln, lp⟩ := (HI.out _ _ _).1 hv
          clear hv HI
          obtain ⟨bn, cn, dn, rfl, hbn, hSn, q4⟩ := ln (Free.listed_of hall hsz 12 (by decide))
          obtain ⟨rfl, rfl⟩ := q4 (Free.listed_of hall hsz 13 (by decide))
          clear ln lp
          obtain rfl := l0 (Free.listed_of hall hsz 0 (by decide))
          obtain rfl := l1 (Free.listed_of hall hsz 1 (by decide))
          obtain rfl := l2 (Free.listed_of hall hsz 2 (by decide))
          obtain rfl := l3 (Free.listed_of hall hsz 3 (by decide))
          obtain rfl := l4 (Free.listed_of hall hsz 4 (by decide))
          obtain rfl := l5 (Free.listed_of hall hsz 5 (by decide))
          obtain rfl := l6 (Free.listed_of hall hsz 6 (by decide))
          obtain rfl := l7 (Free.listed_of hall hsz 7 (by decide))
          obtain rfl := l8 (Free.listed_of hall hsz 8 (by decide))
          obtain rfl := l9 (Free.listed_of hall hsz 9 (by decide))
          obtain rfl := l10 (Free.listed_of hall hsz 10 (by decide))
          obtain rfl := l11 (Free.listed_of hall hsz 11 (by decide))
          obtain rfl := l14 (Free.listed_of hall hsz 14 (by decide))
          clear hall hsz
          have y1 := hSn.lo
          have y2 := hSn.hi
          have hown1 := owns_step hown hW
          have hB1 := hBe.trans (hW.mono hBe.size)
          have hsz := hB1.size
          have HO := hid hown1
          have HBE := hid hB1
          clear hown hBe hB1 hA hB
          go_wp2_with (at_builtin; refine wpList_append_own _ rfl _ _ 23 rfl w.heap.size 47 i0 (.agg #[.int .i64 0, .int .i64 0]) 2 16 Tryd.underlying23 hi0 hz0 hz1 hz2 rfl (by decide) _ _ _ rfl (hown1.alloc _) _ 1 1 [.int .i64 S.1, .int .i64 S.2.1] rfl rfl (cell_two_new _ _ _ _) (by simp [Value.oneCell']) (by unfold maxLen; omega) (by omega) (by simp; omega) ?_; intro v' w1 hown' hgrow _)
          have HN := hid hown'
          have hb2 := (Below.refl w.heap.size (W1.alloc (.cells #[.int .i64 S.1, .int .i64 S.2.1] 47))).grown hgrow (by simp; omega) (fun j e => owns_from HO.out j e)
          exact ⟨⟨k + 1, by omega, by simp, by rw [HM.out, cellsOf_append]; exact HN.out, (HBE.out.alloc hsz _).trans hb2, by rw [HM.out]; exact rfl⟩, by simp [intOf]; omega⟩

      · have HM := hid (Um.meetN_bad hkl hc)
        rw [Um.meet_no hc] at HR
        clear HD hA0 hB0 hc
        generalize Um.sd a k = s1 at *
        generalize Um.sd b k = s2 at *
        obtain ⟨A0, A1⟩ := s1
        obtain ⟨C0, C1⟩ := s2
        simp only at HR
        obtain ⟨S, hS⟩ : ∃ S : Int × Int × Int, S = (0, 0, 5) := ⟨_, rfl⟩
        have hS0 : S.2.2 = 5 := by rw [hS]
        have HR' := fun w => by
          have := (HR w).out
          exact hid this
        go_wp2
        obtain ⟨Inv, hInv⟩ : ∃ Inv : Array Bool → Act → World → Prop, ∀ listed aq W', Inv listed aq W' ↔ (∃ v17 v18 v19 v20 v21 v22 v23 v24 v25 v16 v26 v27 v8 v9 : Value, aq = { tmps := #[Value.slice (some { block := b1, off := off1 }) a.length cap1, Value.slice (some { block := b2, off := off2 }) b.length cap2, undef, undef, u4, u5, u6, Value.int IntKind.i64 ↑k, v8, v9, Value.int IntKind.i64 ↑k, Value.slice (some { block := b1, off := off1 }) a.length cap1, Value.int IntKind.i64 ↑a.length, Value.bool true, u14, u15, v16, v17, v18, v19, v20, v21, v22, v23, v24, v25, v26, v27, u28, u29, u30, u31, u32, u33, u34, undef], defers := [] } ∧ Below (wr).heap.size (wr) W' ∧ (listed.getD 0 false = true → v17 = Value.slice (some { block := b1, off := off1 }) a.length cap1) ∧ (listed.getD 1 false = true → v18 = Value.int IntKind.i64 ↑k) ∧ (listed.getD 2 false = true → v19 = .pointer (some ⟨b1, off1 + k * 2, none⟩)) ∧ (listed.getD 3 false = true → v20 = .agg #[.int .i64 A0, .int .i64 A1]) ∧ (listed.getD 4 false = true → v21 = Value.slice (some { block := b2, off := off2 }) b.length cap2) ∧ (listed.getD 5 false = true → v22 = Value.int IntKind.i64 ↑k) ∧ (listed.getD 6 false = true → v23 = .pointer (some ⟨b2, off2 + k * 2, none⟩)) ∧ (listed.getD 7 false = true → v24 = .agg #[.int .i64 C0, .int .i64 C1]) ∧ (listed.getD 8 false = true → v25 = (.tuple #[.agg #[.int .i64 0, .int .i64 0], .int .i64 5])) ∧ (listed.getD 9 false = true → v16 = (.tuple #[.agg #[.int .i64 0, .int .i64 0], .int .i64 5])) ∧ (listed.getD 10 false = true → v26 = .agg #[.int .i64 0, .int .i64 0]) ∧ (listed.getD 11 false = true → v27 = .int .i64 5) ∧ (listed.getD 14 false = true → v9 = .int .i64 5) ∧ (listed.getD 12 false = true → ∃ (bn : Nat) (cn dn : Int), v8 = .pointer (some ⟨bn, 0, none⟩) ∧ (wr).heap.size ≤ bn ∧ Sp W' bn cn dn ∧ (listed.getD 13 false = true → cn = 0 ∧ dn = 0)) ∧ (listed.getD 13 false = true → listed.getD 12 false = true)) := ⟨_, fun _ _ _ => Iff.rfl⟩
        have HI := hid hInv
        clear hInv
        refine Free.region hmx (by kernel_rfl) Inv ?s1 ?s2 ?s3
        case s1 =>
          exact (HI.out _ _ _).2 ⟨u17, u18, u19, u20, u21, u22, u23, u24, u25, u16, u26, u27, u8, u9, rfl, (Below.refl _ _).drew, Free.not_yet, Free.not_yet, Free.not_yet, Free.not_yet, Free.not_yet, Free.not_yet, Free.not_yet, Free.not_yet, Free.not_yet, Free.not_yet, Free.not_yet, Free.not_yet, Free.not_yet, Free.not_yet, Free.not_yet⟩
        case s2 =>
          intro i listed aq W1 hix hne hnl hsz hv
          obtain ⟨v17, v18, v19, v20, v21, v22, v23, v24, v25, v16, v26, v27, v8, v9, rfl, hW, l0, l1, l2, l3, l4, l5, l6, l7, l8, l9, l10, l11, l14, ln, lp⟩ := (HI.out _ _ _).1 hv
          clear hv
          replace hix : i < 15 := hix
          replace hsz : listed.size = 15 := hsz
          rcases (by omega : i = 0 ∨ i = 1 ∨ i = 2 ∨ i = 3 ∨ i = 4 ∨ i = 5 ∨ i = 6 ∨ i = 7 ∨ i = 8 ∨ i = 9 ∨ i = 10 ∨ i = 11 ∨ i = 12 ∨ i = 13 ∨ i = 14) with rfl | rfl | rfl | rfl | rfl | rfl | rfl | rfl | rfl | rfl | rfl | rfl | rfl | rfl | rfl
          · refine Free.op rfl rfl (fun K hK => ?_)
            go_simp
            exact hK _ _ ((HI.out _ _ _).2 ⟨_, v18, v19, v20, v21, v22, v23, v24, v25, v16, v26, v27, v8, v9, rfl, hW, fun _ => rfl, Free.of_set (by decide) l1, Free.of_set (by decide) l2, Free.of_set (by decide) l3, Free.of_set (by decide) l4, Free.of_set (by decide) l5, Free.of_set (by decide) l6, Free.of_set (by decide) l7, Free.of_set (by decide) l8, Free.of_set (by decide) l9, Free.of_set (by decide) l10, Free.of_set (by decide) l11, Free.of_set (by decide) l14, fun e => by obtain ⟨bn, cn, dn, q1, q2, q3, q4⟩ := ln (Free.back (by decide) e); exact ⟨bn, cn, dn, q1, q2, q3, fun e2 => q4 (Free.back (by decide) e2)⟩, fun e => Free.fore (by decide) (lp (Free.back (by decide) e))⟩)
          · refine Free.op rfl rfl (fun K hK => ?_)
            go_simp
            exact hK _ _ ((HI.out _ _ _).2 ⟨v17, _, v19, v20, v21, v22, v23, v24, v25, v16, v26, v27, v8, v9, rfl, hW, Free.of_set (by decide) l0, fun _ => rfl, Free.of_set (by decide) l2, Free.of_set (by decide) l3, Free.of_set (by decide) l4, Free.of_set (by decide) l5, Free.of_set (by decide) l6, Free.of_set (by decide) l7, Free.of_set (by decide) l8, Free.of_set (by decide) l9, Free.of_set (by decide) l10, Free.of_set (by decide) l11, Free.of_set (by decide) l14, fun e => by obtain ⟨bn, cn, dn, q1, q2, q3, q4⟩ := ln (Free.back (by decide) e); exact ⟨bn, cn, dn, q1, q2, q3, fun e2 => q4 (Free.back (by decide) e2)⟩, fun e => Free.fore (by decide) (lp (Free.back (by decide) e))⟩)
          · refine Free.op rfl rfl (fun K hK => ?_)
            obtain rfl := l0 (hne 0 (by kernel_rfl))
            obtain rfl := l1 (hne 1 (by kernel_rfl))
            go_simp
            exact hK _ _ ((HI.out _ _ _).2 ⟨_, _, _, v20, v21, v22, v23, v24, v25, v16, v26, v27, v8, v9, rfl, hW, fun _ => rfl, fun _ => rfl, fun _ => rfl, Free.of_set (by decide) l3, Free.of_set (by decide) l4, Free.of_set (by decide) l5, Free.of_set (by decide) l6, Free.of_set (by decide) l7, Free.of_set (by decide) l8, Free.of_set (by decide) l9, Free.of_set (by decide) l10, Free.of_set (by decide) l11, Free.of_set (by decide) l14, fun e => by obtain ⟨bn, cn, dn, q1, q2, q3, q4⟩ := ln (Free.back (by decide) e); exact ⟨bn, cn, dn, q1, q2, q3, fun e2 => q4 (Free.back (by decide) e2)⟩, fun e => Free.fore (by decide) (lp (Free.back (by decide) e))⟩)
          · have z0 := (hA.step hW).lo k HA.out rfl
            have z1 := (hA.step hW).hi k HA.out rfl
            refine Free.op rfl rfl (fun K hK => ?_)
            obtain rfl := l2 (hne 2 (by kernel_rfl))
            go_simp
            exact hK _ _ ((HI.out _ _ _).2 ⟨v17, v18, _, _, v21, v22, v23, v24, v25, v16, v26, v27, v8, v9, rfl, hW, Free.of_set (by decide) l0, Free.of_set (by decide) l1, fun _ => rfl, fun _ => rfl, Free.of_set (by decide) l4, Free.of_set (by decide) l5, Free.of_set (by decide) l6, Free.of_set (by decide) l7, Free.of_set (by decide) l8, Free.of_set (by decide) l9, Free.of_set (by decide) l10, Free.of_set (by decide) l11, Free.of_set (by decide) l14, fun e => by obtain ⟨bn, cn, dn, q1, q2, q3, q4⟩ := ln (Free.back (by decide) e); exact ⟨bn, cn, dn, q1, q2, q3, fun e2 => q4 (Free.back (by decide) e2)⟩, fun e => Free.fore (by decide) (lp (Free.back (by decide) e))⟩)
          · refine Free.op rfl rfl (fun K hK => ?_)
            go_simp
            exact hK _ _ ((HI.out _ _ _).2 ⟨v17, v18, v19, v20, _, v22, v23, v24, v25, v16, v26, v27, v8, v9, rfl, hW, Free.of_set (by decide) l0, Free.of_set (by decide) l1, Free.of_set (by decide) l2, Free.of_set (by decide) l3, fun _ => rfl, Free.of_set (by decide) l5, Free.of_set (by decide) l6, Free.of_set (by decide) l7, Free.of_set (by decide) l8, Free.of_set (by decide) l9, Free.of_set (by decide) l10, Free.of_set (by decide) l11, Free.of_set (by decide) l14, fun e => by obtain ⟨bn, cn, dn, q1, q2, q3, q4⟩ := ln (Free.back (by decide) e); exact ⟨bn, cn, dn, q1, q2, q3, fun e2 => q4 (Free.back (by decide) e2)⟩, fun e => Free.fore (by decide) (lp (Free.back (by decide) e))⟩)
          · refine Free.op rfl rfl (fun K hK => ?_)
            go_simp
            exact hK _ _ ((HI.out _ _ _).2 ⟨v17, v18, v19, v20, v21, _, v23, v24, v25, v16, v26, v27, v8, v9, rfl, hW, Free.of_set (by decide) l0, Free.of_set (by decide) l1, Free.of_set (by decide) l2, Free.of_set (by decide) l3, Free.of_set (by decide) l4, fun _ => rfl, Free.of_set (by decide) l6, Free.of_set (by decide) l7, Free.of_set (by decide) l8, Free.of_set (by decide) l9, Free.of_set (by decide) l10, Free.of_set (by decide) l11, Free.of_set (by decide) l14, fun e => by obtain ⟨bn, cn, dn, q1, q2, q3, q4⟩ := ln (Free.back (by decide) e); exact ⟨bn, cn, dn, q1, q2, q3, fun e2 => q4 (Free.back (by decide) e2)⟩, fun e => Free.fore (by decide) (lp (Free.back (by decide) e))⟩)
          · refine Free.op rfl rfl (fun K hK => ?_)
            obtain rfl := l4 (hne 4 (by kernel_rfl))
            obtain rfl := l5 (hne 5 (by kernel_rfl))
            go_simp
            exact hK _ _ ((HI.out _ _ _).2 ⟨v17, v18, v19, v20, _, _, _, v24, v25, v16, v26, v27, v8, v9, rfl, hW, Free.of_set (by decide) l0, Free.of_set (by decide) l1, Free.of_set (by decide) l2, Free.of_set (by decide) l3, fun _ => rfl, fun _ => rfl, fun _ => rfl, Free.of_set (by decide) l7, Free.of_set (by decide) l8, Free.of_set (by decide) l9, Free.of_set (by decide) l10, Free.of_set (by decide) l11, Free.of_set (by decide) l14, fun e => by obtain ⟨bn, cn, dn, q1, q2, q3, q4⟩ := ln (Free.back (by decide) e); exact ⟨bn, cn, dn, q1, q2, q3, fun e2 => q4 (Free.back (by decide) e2)⟩, fun e => Free.fore (by decide) (lp (Free.back (by decide) e))⟩)
          · have z0 := (hB.step hW).lo k HB.out rfl
            have z1 := (hB.step hW).hi k HB.out rfl
            refine Free.op rfl rfl (fun K hK => ?_)
            obtain rfl := l6 (hne 6 (by kernel_rfl))
            go_simp
            exact hK _ _ ((HI.out _ _ _).2 ⟨v17, v18, v19, v20, v21, v22, _, _, v25, v16, v26, v27, v8, v9, rfl, hW, Free.of_set (by decide) l0, Free.of_set (by decide) l1, Free.of_set (by decide) l2, Free.of_set (by decide) l3, Free.of_set (by decide) l4, Free.of_set (by decide) l5, fun _ => rfl, fun _ => rfl, Free.of_set (by decide) l8, Free.of_set (by decide) l9, Free.of_set (by decide) l10, Free.of_set (by decide) l11, Free.of_set (by decide) l14, fun e => by obtain ⟨bn, cn, dn, q1, q2, q3, q4⟩ := ln (Free.back (by decide) e); exact ⟨bn, cn, dn, q1, q2, q3, fun e2 => q4 (Free.back (by decide) e2)⟩, fun e => Free.fore (by decide) (lp (Free.back (by decide) e))⟩)
          · refine Free.op rfl rfl (fun K hK => ?_)
            obtain rfl := l3 (hne 3 (by kernel_rfl))
            obtain rfl := l7 (hne 7 (by kernel_rfl))
            go_wp2_with (go_at_call 43; refine (HR _).out.mono ?_; rintro e W3 ⟨rfl, hb⟩)
            exact (HI.out _ _ _).2 ⟨v17, v18, v19, _, v21, v22, v23, _, _, v16, v26, v27, v8, v9, rfl, hW.trans (hb.mono hW.size), Free.of_set (by decide) l0, Free.of_set (by decide) l1, Free.of_set (by decide) l2, fun _ => rfl, Free.of_set (by decide) l4, Free.of_set (by decide) l5, Free.of_set (by decide) l6, fun _ => rfl, fun _ => rfl, Free.of_set (by decide) l9, Free.of_set (by decide) l10, Free.of_set (by decide) l11, Free.of_set (by decide) l14, fun e => by obtain ⟨bn, cn, dn, q1, q2, q3, q4⟩ := ln (Free.back (by decide) e); exact ⟨bn, cn, dn, q1, q2, (q3.step hb), fun e2 => q4 (Free.back (by decide) e2)⟩, fun e => Free.fore (by decide) (lp (Free.back (by decide) e))⟩
          · refine Free.op rfl rfl (fun K hK => ?_)
            obtain rfl := l8 (hne 8 (by kernel_rfl))
            go_simp
            exact hK _ _ ((HI.out _ _ _).2 ⟨v17, v18, v19, v20, v21, v22, v23, v24, _, _, v26, v27, v8, v9, rfl, hW, Free.of_set (by decide) l0, Free.of_set (by decide) l1, Free.of_set (by decide) l2, Free.of_set (by decide) l3, Free.of_set (by decide) l4, Free.of_set (by decide) l5, Free.of_set (by decide) l6, Free.of_set (by decide) l7, fun _ => rfl, fun _ => rfl, Free.of_set (by decide) l10, Free.of_set (by decide) l11, Free.of_set (by decide) l14, fun e => by obtain ⟨bn, cn, dn, q1, q2, q3, q4⟩ := ln (Free.back (by decide) e); exact ⟨bn, cn, dn, q1, q2, q3, fun e2 => q4 (Free.back (by decide) e2)⟩, fun e => Free.fore (by decide) (lp (Free.back (by decide) e))⟩)
          · refine Free.op rfl rfl (fun K hK => ?_)
            obtain rfl := l9 (hne 9 (by kernel_rfl))
            go_simp
            exact hK _ _ ((HI.out _ _ _).2 ⟨v17, v18, v19, v20, v21, v22, v23, v24, v25, _, _, v27, v8, v9, rfl, hW, Free.of_set (by decide) l0, Free.of_set (by decide) l1, Free.of_set (by decide) l2, Free.of_set (by decide) l3, Free.of_set (by decide) l4, Free.of_set (by decide) l5, Free.of_set (by decide) l6, Free.of_set (by decide) l7, Free.of_set (by decide) l8, fun _ => rfl, fun _ => rfl, Free.of_set (by decide) l11, Free.of_set (by decide) l14, fun e => by obtain ⟨bn, cn, dn, q1, q2, q3, q4⟩ := ln (Free.back (by decide) e); exact ⟨bn, cn, dn, q1, q2, q3, fun e2 => q4 (Free.back (by decide) e2)⟩, fun e => Free.fore (by decide) (lp (Free.back (by decide) e))⟩)
          · refine Free.op rfl rfl (fun K hK => ?_)
            obtain rfl := l9 (hne 9 (by kernel_rfl))
            go_simp
            exact hK _ _ ((HI.out _ _ _).2 ⟨v17, v18, v19, v20, v21, v22, v23, v24, v25, _, v26, _, v8, v9, rfl, hW, Free.of_set (by decide) l0, Free.of_set (by decide) l1, Free.of_set (by decide) l2, Free.of_set (by decide) l3, Free.of_set (by decide) l4, Free.of_set (by decide) l5, Free.of_set (by decide) l6, Free.of_set (by decide) l7, Free.of_set (by decide) l8, fun _ => rfl, Free.of_set (by decide) l10, fun _ => rfl, Free.of_set (by decide) l14, fun e => by obtain ⟨bn, cn, dn, q1, q2, q3, q4⟩ := ln (Free.back (by decide) e); exact ⟨bn, cn, dn, q1, q2, q3, fun e2 => q4 (Free.back (by decide) e2)⟩, fun e => Free.fore (by decide) (lp (Free.back (by decide) e))⟩)
          · have hs : listed.getD 13 false = false := by
              cases e : listed.getD 13 false
              · rfl
              · rw [Free.off hnl] at lp; cases lp e
            refine Free.op rfl rfl (fun K hK => ?_)
            go_simp
            exact hK _ _ ((HI.out _ _ _).2 ⟨v17, v18, v19, v20, v21, v22, v23, v24, v25, v16, v26, v27, _, v9, rfl, hW.alloc hW.size _, Free.of_set (by decide) l0, Free.of_set (by decide) l1, Free.of_set (by decide) l2, Free.of_set (by decide) l3, Free.of_set (by decide) l4, Free.of_set (by decide) l5, Free.of_set (by decide) l6, Free.of_set (by decide) l7, Free.of_set (by decide) l8, Free.of_set (by decide) l9, Free.of_set (by decide) l10, Free.of_set (by decide) l11, Free.of_set (by decide) l14, fun _ => ⟨_, _, _, rfl, hW.size, Sp.new _ _ _, fun e => by rw [Free.set_other (by decide), hs] at e; cases e⟩, fun e => by rw [Free.set_other (by decide), hs] at e; cases e⟩)
          · have N := hid (hne 12 (by kernel_rfl))
            obtain ⟨bn, cn, dn, q1, q2, q3, q4⟩ := ln N.out
            subst q1
            have y1 := q3.fl
            have y2 := q3.fh
            have y3 := q3.lo
            have y4 := q3.hi
            refine Free.op rfl rfl (fun K hK => ?_)
            obtain rfl := l10 (hne 10 (by kernel_rfl))
            go_simp
            exact hK _ _ ((HI.out _ _ _).2 ⟨v17, v18, v19, v20, v21, v22, v23, v24, v25, v16, _, v27, _, v9, rfl, (hW.setCell q2 _).setCell q2 _, Free.of_set (by decide) l0, Free.of_set (by decide) l1, Free.of_set (by decide) l2, Free.of_set (by decide) l3, Free.of_set (by decide) l4, Free.of_set (by decide) l5, Free.of_set (by decide) l6, Free.of_set (by decide) l7, Free.of_set (by decide) l8, Free.of_set (by decide) l9, fun _ => rfl, Free.of_set (by decide) l11, Free.of_set (by decide) l14, fun _ => ⟨_, _, _, rfl, q2, q3.set _ _, fun _ => ⟨rfl, rfl⟩⟩, fun _ => Free.fore (by decide) N.out⟩)
          · refine Free.op rfl rfl (fun K hK => ?_)
            obtain rfl := l11 (hne 11 (by kernel_rfl))
            go_simp
            exact hK _ _ ((HI.out _ _ _).2 ⟨v17, v18, v19, v20, v21, v22, v23, v24, v25, v16, v26, _, v8, _, rfl, hW, Free.of_set (by decide) l0, Free.of_set (by decide) l1, Free.of_set (by decide) l2, Free.of_set (by decide) l3, Free.of_set (by decide) l4, Free.of_set (by decide) l5, Free.of_set (by decide) l6, Free.of_set (by decide) l7, Free.of_set (by decide) l8, Free.of_set (by decide) l9, Free.of_set (by decide) l10, fun _ => rfl, fun _ => rfl, fun e => by obtain ⟨bn, cn, dn, q1, q2, q3, q4⟩ := ln (Free.back (by decide) e); exact ⟨bn, cn, dn, q1, q2, q3, fun e2 => q4 (Free.back (by decide) e2)⟩, fun e => Free.fore (by decide) (lp (Free.back (by decide) e))⟩)
        case s3 =>
          intro listed aq W1 hall hsz hv
          obtain ⟨v17, v18, v19, v20, v21, v22, v23, v24, v25, v16, v26, v27, v8, v9, rfl, hW, l0, l1, l2, l3, l4, l5, l6, l7, l8, l9, l10, l11, l14, ln, lp⟩ := (HI.out _ _ _).1 hv
          clear hv HI
          obtain ⟨bn, cn, dn, rfl, hbn, hSn, q4⟩ := ln (Free.listed_of hall hsz 12 (by decide))
          obtain ⟨rfl, rfl⟩ := q4 (Free.listed_of hall hsz 13 (by decide))
          clear ln lp
          obtain rfl := l0 (Free.listed_of hall hsz 0 (by decide))
          obtain rfl := l1 (Free.listed_of hall hsz 1 (by decide))
          obtain rfl := l2 (Free.listed_of hall hsz 2 (by decide))
          obtain rfl := l3 (Free.listed_of hall hsz 3 (by decide))
          obtain rfl := l4 (Free.listed_of hall hsz 4 (by decide))
          obtain rfl := l5 (Free.listed_of hall hsz 5 (by decide))
          obtain rfl := l6 (Free.listed_of hall hsz 6 (by decide))
          obtain rfl := l7 (Free.listed_of hall hsz 7 (by decide))
          obtain rfl := l8 (Free.listed_of hall hsz 8 (by decide))
          obtain rfl := l9 (Free.listed_of hall hsz 9 (by decide))
          obtain rfl := l10 (Free.listed_of hall hsz 10 (by decide))
          obtain rfl := l11 (Free.listed_of hall hsz 11 (by decide))
          obtain rfl := l14 (Free.listed_of hall hsz 14 (by decide))
          clear hall hsz
          have hB1 := hBe.trans (hW.mono hBe.size)
          clear hown hBe hA hB
          go_wp2
          go_returns
          rw [HM.out]
          exact ⟨_, rfl, Ls.nil _ _, hB1⟩

    · obtain rfl : k = a.length := by omega
      have HQ := hid (ls_owns (l := (Um.meetN a b a.length).1) (by rw [(Um.meetN_ok hZ.out).1]; exact hown))
      have HZ := hid hZ.out
      clear hown HD hA0 hB0 hZ
      go_wp2
      go_returns
      rw [HZ.out]
      exact ⟨_, rfl, HQ.out, hBe⟩

theorem rMiddle_below (lo hi : Int) (w : World) (a1 : -1000000000 ≤ lo) (a2 : lo ≤ 1000000000) (a3 : -1000000000 ≤ hi) (a4 : hi ≤ 1000000000) :
    Calls Tryd.prog 52 #[.agg #[.int .i64 lo, .int .i64 hi]] w fun e w' => e = .returned (.int .i64 (Um.midR lo hi)) ∧ Below w.heap.size w w' := by
  refine (rMiddle_any lo hi w a1 a2 a3 a4).mono ?_
  rintro e w' ⟨rfl, rfl⟩
  exact ⟨rfl, by go_grown⟩
set_option maxRecDepth 100000 in
set_option maxHeartbeats 8000000 in
theorem rHalve_new (q : List (Int × Int)) (v : Value) (w : World) (hs : Ls w.heap.size w v q) (h : Um.boxF q = 0) :
    Calls Tryd.prog 29 #[v] w fun e w' => ∃ r1 r2, e = .returned (.tuple #[r1, r2]) ∧ Ls w'.heap.size w' r1 (Um.halfA q) ∧ Ls w'.heap.size w' r2 (Um.halfB q) ∧ Below w.heap.size w w' ∧ (∀ g, r1.ownBlock = some g → w.heap.size ≤ g) ∧ (∀ g, r2.ownBlock = some g → w.heap.size ≤ g) := by
  have HW := fun w hs => hid (rWidest_any q v w hs h)
  have hln := Um.box_len h
  have hm := Um.wide_lt hln.1
  obtain ⟨s1, s2, s3, s4, -⟩ := side_b h hm
  have HM := fun w => hid (rMiddle_below (Um.sd q (Um.wide q)).1 (Um.sd q (Um.wide q)).2 w s1 s2 s3 s4)
  have HS := hid (Um.sd_some hm)
  have HA : Hid (Um.halfA q = q.set (Um.wide q) ((Um.sd q (Um.wide q)).1, Um.midR (Um.sd q (Um.wide q)).1 (Um.sd q (Um.wide q)).2)) := hid rfl
  have HB : Hid (Um.halfB q = q.set (Um.wide q) (Um.midR (Um.sd q (Um.wide q)).1 (Um.sd q (Um.wide q)).2, (Um.sd q (Um.wide q)).2)) := hid rfl
  obtain ⟨i0, hi0, hz0, hz1, hz2⟩ := info_parts info_spans
  obtain ⟨b, off, cap, rfl, hcap, hA⟩ := hs.open (Um.box_ok.1 h).1
  have hF := Fr.start w
  have hmm : (Um.wide q : Int) < (q.length : Int) := by omega
  generalize Um.halfA q = XA at *
  generalize Um.halfB q = XB at *
  generalize Um.midR (Um.sd q (Um.wide q)).1 (Um.sd q (Um.wide q)).2 = M at *
  generalize Um.wide q = m at *
  clear h s1 s2 s3 s4
  go_enter Tryd.func29, Tryd.ntmps29
  go_wp2_with (first | (go_at_call 51; refine (HW _ (hF.ls hs)).out.mono ?_; rintro e wn ⟨rfl, hb⟩; replace o1' := o1'.step hb; replace o2 := o2.step hb; replace hF := hF.step hb; clear hb; clear HW; have z0 := (hA.step hF.below).lo m HS.out rfl; have z1 := (hA.step hF.below).hi m HS.out rfl) | (go_at_call 52; refine (HM _).out.mono ?_; rintro e wn ⟨rfl, hb⟩; replace o1' := o1'.step hb; replace o2 := o2.step hb; replace hF := hF.step hb; clear hb; clear HM z0 z1; have y1 := o1'.free (m * 2 + 1); have y2 := o1'.hi hm; have p1 := o1'.putHi m M; have p2 := o2.other ⟨g1, m * 2 + 1, none⟩ (.int .i64 M) (by show g2 ≠ g1; omega); have y3 := p2.free (m * 2); have y4 := p2.lo hm; have p3 := p2.putLo m M; have p4 := p1.other ⟨g2, m * 2, none⟩ (.int .i64 M) (by show g1 ≠ g2; omega)) | (at_builtin; refine wpList_append_own _ rfl _ _ 23 rfl _ 47 i0 (.agg #[.int .i64 0, .int .i64 0]) 2 16 Tryd.underlying23 hi0 hz0 hz1 hz2 rfl (by decide) _ 0 [] rfl (World.ownsRow_nil _ _ _ _) ⟨b, off, none⟩ q.length cap (cellsOf q) rfl (cellsOf_length q) (ls_cells (hA.step hF.below)) (cellsOf_one q) (by unfold maxLen; omega) (by omega) (Nat.le_refl _) ?_; intro v' wn hown hgrow _; have hb := (Below.refl _ _).grown hgrow (Nat.le_refl _) (fun j e => by cases e); have o1' := o1; clear o1; have hne := o1'.lt; have hFs := hF.size; replace o1' := o1'.step hb; replace hF := hF.step hb; clear hb; rw [Nat.zero_add, List.nil_append] at hown; obtain ⟨g2, cap2, rfl, o2⟩ := owns_open hown hln.1; have hge := o2.ge; clear hown) | (at_builtin; refine wpList_append_own _ rfl _ _ 23 rfl _ 47 i0 (.agg #[.int .i64 0, .int .i64 0]) 2 16 Tryd.underlying23 hi0 hz0 hz1 hz2 rfl (by decide) _ 0 [] rfl (World.ownsRow_nil _ _ _ _) ⟨b, off, none⟩ q.length cap (cellsOf q) rfl (cellsOf_length q) (ls_cells (hA.step hF.below)) (cellsOf_one q) (by unfold maxLen; omega) (by omega) (Nat.le_refl _) ?_; intro v' wn hown hgrow _; have hb := (Below.refl _ _).grown hgrow (Nat.le_refl _) (fun j e => by cases e); replace hF := hF.step hb; clear hb hgrow; rw [Nat.zero_add, List.nil_append] at hown; obtain ⟨g1, cap1, rfl, o1⟩ := owns_open hown hln.1; clear hown))
  go_returns
  rw [HA.out, HB.out]
  refine ⟨_, _, rfl, ?_, ?_, ?_, fun g hg => ?_, fun g hg => ?_⟩
  · have := p4.ls; rw [List.length_set] at this; exact this
  · have := p3.ls; rw [List.length_set] at this; exact this
  · exact (hF.below.setCell (by show w.heap.size ≤ g1; exact o1'.ge) _).setCell (by show w.heap.size ≤ g2; omega) _
  · have e : g1 = g := by simpa [Value.ownBlock] using hg
    have := o1'.ge
    omega
  · have e : g2 = g := by simpa [Value.ownBlock] using hg
    omega
theorem rHalve_any (q : List (Int × Int)) (v : Value) (w : World) (hs : Ls w.heap.size w v q) (h : Um.boxF q = 0) :
    Calls Tryd.prog 29 #[v] w fun e w' => ∃ r1 r2, e = .returned (.tuple #[r1, r2]) ∧ Ls w'.heap.size w' r1 (Um.halfA q) ∧ Ls w'.heap.size w' r2 (Um.halfB q) ∧ Below w.heap.size w w' := by
  refine (rHalve_new q v w hs h).mono ?_
  rintro e w' ⟨r1, r2, h1, h2, h3, h4, -⟩
  exact ⟨r1, r2, h1, h2, h3, h4⟩
end Go.Proofs.YtkeoafbkbblnaaaDoor
