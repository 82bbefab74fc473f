/-
  What the document's answer (package spanref1) to boxes that are right is: Has, Within, HullBox, MeetBox, Widest, Halve.
-/
import Derived.Test.YthgehlonjoafmaaDoorRefBoxC
import Derived.Test.YthgehlonjoafmaaDoorRefWide
import Derived.Test.YthgehlonjoafmaaDoorRefPow
import Derived.Test.YthgehlonjoafmaaDoorRefSplit
import Derived.Test.YthgehlonjoafmaaDoorBoxV
import Derived.Test.YthgehlonjoafmaaDoorBoxM
namespace Go.Proofs.YthgehlonjoafmaaDoor
set_option linter.unusedSimpArgs false
open Go.RowKit

set_option maxRecDepth 100000 in
set_option maxHeartbeats 8000000 in
theorem rHullBox_own (a b : List (Int × Int)) (u v : Value) (w : World) (hs1 : Ls w.heap.size w u a) (hs2 : Ls w.heap.size w v b) (h : Um.boxesF a b = 0) :
    Calls Tryd.prog 19 #[u, v] w fun e w' => ∃ r, e = .returned r ∧ w'.ownsRow w.heap.size 28 2 r (Um.hullN a b a.length).length (cellsOf (Um.hullN a b a.length)) ∧ Below w.heap.size w w' := by
  have hmx : Tryd.prog.follows .mixedOrders = true := by kernel_rfl
  obtain ⟨ha, hb, hl⟩ := Um.boxes_ok.1 h
  have hln := Um.box_len ha
  have HL := hid hl
  have HD := fun k w => hid (rHull_any (Um.sd a k).1 (Um.sd a k).2 (Um.sd b k).1 (Um.sd b k).2 w)
  obtain ⟨i0, hi0, hz0, hz1, hz2⟩ := info_parts info_spans
  obtain ⟨b1, off1, cap1, rfl, -, hA0⟩ := hs1.open (Um.box_ok.1 ha).1
  obtain ⟨b2, off2, cap2, rfl, -, hB0⟩ := hs2.open (Um.box_ok.1 hb).1
  clear h ha hb hl hs1 hs2
  go_enter Tryd.func19, Tryd.ntmps19
  go_wp2
  go_loopw [5, 6] (fun u i wr => ∃ k : Nat, k ≤ a.length ∧ i = .int .i64 k ∧ wr.ownsRow w.heap.size 28 2 u k (cellsOf (Um.hullN a b k)) ∧ Below w.heap.size w wr) (fun _ i _ => a.length - (intOf i).toNat)
  case atStart => exact ⟨0, Nat.zero_le _, rfl, World.ownsRow_nil _ _ _ _, Below.refl _ _⟩
  case round =>
    obtain ⟨k, hk, rfl, hown, hBe⟩ := hrel
    by_cases hkl : k < a.length
    · have hkk : (k : Int) < (a.length : Int) := by omega
      have hkk2 : (k : Int) < (b.length : Int) := by have := HL.out; omega
      have hA := hA0.step hBe
      have hB := hB0.step hBe
      have HR := fun w => HD k w
      have HA := hid (Um.sd_some hkl)
      have HB := hid (Um.sd_some (show k < b.length by have := HL.out; omega))
      have HM : Hid (Um.hullN a b (k + 1) = Um.hullN a b k ++ [((Um.hullR (Um.sd a k).1 (Um.sd a k).2 (Um.sd b k).1 (Um.sd b k).2).1, (Um.hullR (Um.sd a k).1 (Um.sd a k).2 (Um.sd b k).1 (Um.sd b k).2).2.1)]) := hid rfl
      clear HD hA0 hB0
      generalize Um.sd a k = s1 at *
      generalize Um.sd b k = s2 at *
      obtain ⟨A0, A1⟩ := s1
      obtain ⟨C0, C1⟩ := s2
      simp only at HR HM
      generalize Um.hullR A0 A1 C0 C1 = S at *
      go_wp2
      obtain ⟨Inv, hInv⟩ : ∃ Inv : Array Bool → Act → World → Prop, ∀ listed aq W', Inv listed aq W' ↔ (∃ v14 v15 v16 v17 v18 v19 v20 v21 v22 v7 : Value, aq = { tmps := #[Value.slice (some { block := b1, off := off1 }) a.length cap1, Value.slice (some { block := b2, off := off2 }) b.length cap2, undef, undef, Value.slice none 0 0, u5, Value.int IntKind.i64 ↑k, v7, Value.int IntKind.i64 ↑k, Value.slice (some { block := b1, off := off1 }) a.length cap1, Value.int IntKind.i64 ↑a.length, Value.bool true, u12, u13, v14, v15, v16, v17, v18, v19, v20, v21, v22, u23, u24, u25, u26, undef], defers := [] } ∧ Below (wr).heap.size (wr) W' ∧ (listed.getD 0 false = true → v14 = Value.slice (some { block := b1, off := off1 }) a.length cap1) ∧ (listed.getD 1 false = true → v15 = Value.int IntKind.i64 ↑k) ∧ (listed.getD 2 false = true → v16 = .pointer (some ⟨b1, off1 + k * 2, none⟩)) ∧ (listed.getD 3 false = true → v17 = .agg #[.int .i64 A0, .int .i64 A1]) ∧ (listed.getD 4 false = true → v18 = Value.slice (some { block := b2, off := off2 }) b.length cap2) ∧ (listed.getD 5 false = true → v19 = Value.int IntKind.i64 ↑k) ∧ (listed.getD 6 false = true → v20 = .pointer (some ⟨b2, off2 + k * 2, none⟩)) ∧ (listed.getD 7 false = true → v21 = .agg #[.int .i64 C0, .int .i64 C1]) ∧ (listed.getD 8 false = true → v22 = .agg #[.int .i64 S.1, .int .i64 S.2.1]) ∧ (listed.getD 9 false = true → ∃ (bn : Nat) (cn dn : Int), v7 = .pointer (some ⟨bn, 0, none⟩) ∧ (wr).heap.size ≤ bn ∧ Sp W' bn cn dn ∧ (listed.getD 10 false = true → cn = S.1 ∧ dn = S.2.1)) ∧ (listed.getD 10 false = true → listed.getD 9 false = true)) := ⟨_, fun _ _ _ => Iff.rfl⟩
      have HI := hid hInv
      clear hInv
      refine Free.region hmx (by kernel_rfl) Inv ?s1 ?s2 ?s3
      case s1 =>
        exact (HI.out _ _ _).2 ⟨u14, u15, u16, u17, u18, u19, u20, u21, u22, u7, rfl, (Below.refl _ _).drew, Free.not_yet, Free.not_yet, Free.not_yet, Free.not_yet, Free.not_yet, Free.not_yet, Free.not_yet, Free.not_yet, Free.not_yet, Free.not_yet, Free.not_yet⟩
      case s2 =>
        intro i listed aq W1 hix hne hnl hsz hv
        obtain ⟨v14, v15, v16, v17, v18, v19, v20, v21, v22, v7, rfl, hW, l0, l1, l2, l3, l4, l5, l6, l7, l8, ln, lp⟩ := (HI.out _ _ _).1 hv
        clear hv
        replace hix : i < 11 := hix
        replace hsz : listed.size = 11 := hsz
        rcases (by omega : i = 0 ∨ i = 1 ∨ i = 2 ∨ i = 3 ∨ i = 4 ∨ i = 5 ∨ i = 6 ∨ i = 7 ∨ i = 8 ∨ i = 9 ∨ i = 10) with rfl | rfl | rfl | rfl | rfl | rfl | rfl | rfl | rfl | rfl | rfl
        · refine Free.op rfl rfl (fun K hK => ?_)
          go_simp
          exact hK _ _ ((HI.out _ _ _).2 ⟨_, v15, v16, v17, v18, v19, v20, v21, v22, v7, rfl, hW, fun _ => rfl, Free.of_set (by decide) l1, Free.of_set (by decide) l2, Free.of_set (by decide) l3, Free.of_set (by decide) l4, Free.of_set (by decide) l5, Free.of_set (by decide) l6, Free.of_set (by decide) l7, Free.of_set (by decide) l8, fun e => by obtain ⟨bn, cn, dn, q1, q2, q3, q4⟩ := ln (Free.back (by decide) e); exact ⟨bn, cn, dn, q1, q2, q3, fun e2 => q4 (Free.back (by decide) e2)⟩, fun e => Free.fore (by decide) (lp (Free.back (by decide) e))⟩)
        · refine Free.op rfl rfl (fun K hK => ?_)
          go_simp
          exact hK _ _ ((HI.out _ _ _).2 ⟨v14, _, v16, v17, v18, v19, v20, v21, v22, v7, rfl, hW, Free.of_set (by decide) l0, fun _ => rfl, Free.of_set (by decide) l2, Free.of_set (by decide) l3, Free.of_set (by decide) l4, Free.of_set (by decide) l5, Free.of_set (by decide) l6, Free.of_set (by decide) l7, Free.of_set (by decide) l8, fun e => by obtain ⟨bn, cn, dn, q1, q2, q3, q4⟩ := ln (Free.back (by decide) e); exact ⟨bn, cn, dn, q1, q2, q3, fun e2 => q4 (Free.back (by decide) e2)⟩, fun e => Free.fore (by decide) (lp (Free.back (by decide) e))⟩)
        · refine Free.op rfl rfl (fun K hK => ?_)
          obtain rfl := l0 (hne 0 (by kernel_rfl))
          obtain rfl := l1 (hne 1 (by kernel_rfl))
          go_simp
          exact hK _ _ ((HI.out _ _ _).2 ⟨_, _, _, v17, v18, v19, v20, v21, v22, v7, rfl, hW, fun _ => rfl, fun _ => rfl, fun _ => rfl, Free.of_set (by decide) l3, Free.of_set (by decide) l4, Free.of_set (by decide) l5, Free.of_set (by decide) l6, Free.of_set (by decide) l7, Free.of_set (by decide) l8, fun e => by obtain ⟨bn, cn, dn, q1, q2, q3, q4⟩ := ln (Free.back (by decide) e); exact ⟨bn, cn, dn, q1, q2, q3, fun e2 => q4 (Free.back (by decide) e2)⟩, fun e => Free.fore (by decide) (lp (Free.back (by decide) e))⟩)
        · have z0 := (hA.step hW).lo k HA.out rfl
          have z1 := (hA.step hW).hi k HA.out rfl
          refine Free.op rfl rfl (fun K hK => ?_)
          obtain rfl := l2 (hne 2 (by kernel_rfl))
          go_simp
          exact hK _ _ ((HI.out _ _ _).2 ⟨v14, v15, _, _, v18, v19, v20, v21, v22, v7, rfl, hW, Free.of_set (by decide) l0, Free.of_set (by decide) l1, fun _ => rfl, fun _ => rfl, Free.of_set (by decide) l4, Free.of_set (by decide) l5, Free.of_set (by decide) l6, Free.of_set (by decide) l7, Free.of_set (by decide) l8, fun e => by obtain ⟨bn, cn, dn, q1, q2, q3, q4⟩ := ln (Free.back (by decide) e); exact ⟨bn, cn, dn, q1, q2, q3, fun e2 => q4 (Free.back (by decide) e2)⟩, fun e => Free.fore (by decide) (lp (Free.back (by decide) e))⟩)
        · refine Free.op rfl rfl (fun K hK => ?_)
          go_simp
          exact hK _ _ ((HI.out _ _ _).2 ⟨v14, v15, v16, v17, _, v19, v20, v21, v22, v7, rfl, hW, Free.of_set (by decide) l0, Free.of_set (by decide) l1, Free.of_set (by decide) l2, Free.of_set (by decide) l3, fun _ => rfl, Free.of_set (by decide) l5, Free.of_set (by decide) l6, Free.of_set (by decide) l7, Free.of_set (by decide) l8, fun e => by obtain ⟨bn, cn, dn, q1, q2, q3, q4⟩ := ln (Free.back (by decide) e); exact ⟨bn, cn, dn, q1, q2, q3, fun e2 => q4 (Free.back (by decide) e2)⟩, fun e => Free.fore (by decide) (lp (Free.back (by decide) e))⟩)
        · refine Free.op rfl rfl (fun K hK => ?_)
          go_simp
          exact hK _ _ ((HI.out _ _ _).2 ⟨v14, v15, v16, v17, v18, _, v20, v21, v22, v7, rfl, hW, Free.of_set (by decide) l0, Free.of_set (by decide) l1, Free.of_set (by decide) l2, Free.of_set (by decide) l3, Free.of_set (by decide) l4, fun _ => rfl, Free.of_set (by decide) l6, Free.of_set (by decide) l7, Free.of_set (by decide) l8, fun e => by obtain ⟨bn, cn, dn, q1, q2, q3, q4⟩ := ln (Free.back (by decide) e); exact ⟨bn, cn, dn, q1, q2, q3, fun e2 => q4 (Free.back (by decide) e2)⟩, fun e => Free.fore (by decide) (lp (Free.back (by decide) e))⟩)
        · refine Free.op rfl rfl (fun K hK => ?_)
          obtain rfl := l4 (hne 4 (by kernel_rfl))
          obtain rfl := l5 (hne 5 (by kernel_rfl))
          go_simp
          exact hK _ _ ((HI.out _ _ _).2 ⟨v14, v15, v16, v17, _, _, _, v21, v22, v7, rfl, hW, Free.of_set (by decide) l0, Free.of_set (by decide) l1, Free.of_set (by decide) l2, Free.of_set (by decide) l3, fun _ => rfl, fun _ => rfl, fun _ => rfl, Free.of_set (by decide) l7, Free.of_set (by decide) l8, fun e => by obtain ⟨bn, cn, dn, q1, q2, q3, q4⟩ := ln (Free.back (by decide) e); exact ⟨bn, cn, dn, q1, q2, q3, fun e2 => q4 (Free.back (by decide) e2)⟩, fun e => Free.fore (by decide) (lp (Free.back (by decide) e))⟩)
        · have z0 := (hB.step hW).lo k HB.out rfl
          have z1 := (hB.step hW).hi k HB.out rfl
          refine Free.op rfl rfl (fun K hK => ?_)
          obtain rfl := l6 (hne 6 (by kernel_rfl))
          go_simp
          exact hK _ _ ((HI.out _ _ _).2 ⟨v14, v15, v16, v17, v18, v19, _, _, v22, v7, rfl, hW, Free.of_set (by decide) l0, Free.of_set (by decide) l1, Free.of_set (by decide) l2, Free.of_set (by decide) l3, Free.of_set (by decide) l4, Free.of_set (by decide) l5, fun _ => rfl, fun _ => rfl, Free.of_set (by decide) l8, fun e => by obtain ⟨bn, cn, dn, q1, q2, q3, q4⟩ := ln (Free.back (by decide) e); exact ⟨bn, cn, dn, q1, q2, q3, fun e2 => q4 (Free.back (by decide) e2)⟩, fun e => Free.fore (by decide) (lp (Free.back (by decide) e))⟩)
        · refine Free.op rfl rfl (fun K hK => ?_)
          obtain rfl := l3 (hne 3 (by kernel_rfl))
          obtain rfl := l7 (hne 7 (by kernel_rfl))
          go_wp2_with (go_at_call 31; refine (HR _).out.mono ?_; rintro e W3 ⟨rfl, hb⟩)
          exact (HI.out _ _ _).2 ⟨v14, v15, v16, _, v18, v19, v20, _, _, v7, rfl, hW.trans (hb.mono hW.size), Free.of_set (by decide) l0, Free.of_set (by decide) l1, Free.of_set (by decide) l2, fun _ => rfl, Free.of_set (by decide) l4, Free.of_set (by decide) l5, Free.of_set (by decide) l6, fun _ => rfl, fun _ => rfl, fun e => by obtain ⟨bn, cn, dn, q1, q2, q3, q4⟩ := ln (Free.back (by decide) e); exact ⟨bn, cn, dn, q1, q2, (q3.step hb), fun e2 => q4 (Free.back (by decide) e2)⟩, fun e => Free.fore (by decide) (lp (Free.back (by decide) e))⟩
        · have hs : listed.getD 10 false = false := by
            cases e : listed.getD 10 false
            · rfl
            · rw [Free.off hnl] at lp; cases lp e
          refine Free.op rfl rfl (fun K hK => ?_)
          go_simp
          exact hK _ _ ((HI.out _ _ _).2 ⟨v14, v15, v16, v17, v18, v19, v20, v21, v22, _, rfl, hW.alloc hW.size _, Free.of_set (by decide) l0, Free.of_set (by decide) l1, Free.of_set (by decide) l2, Free.of_set (by decide) l3, Free.of_set (by decide) l4, Free.of_set (by decide) l5, Free.of_set (by decide) l6, Free.of_set (by decide) l7, Free.of_set (by decide) l8, fun _ => ⟨_, _, _, rfl, hW.size, Sp.new _ _ _, fun e => by rw [Free.set_other (by decide), hs] at e; cases e⟩, fun e => by rw [Free.set_other (by decide), hs] at e; cases e⟩)
        · have N := hid (hne 9 (by kernel_rfl))
          obtain ⟨bn, cn, dn, q1, q2, q3, q4⟩ := ln N.out
          subst q1
          have y1 := q3.fl
          have y2 := q3.fh
          have y3 := q3.lo
          have y4 := q3.hi
          refine Free.op rfl rfl (fun K hK => ?_)
          obtain rfl := l8 (hne 8 (by kernel_rfl))
          go_simp
          exact hK _ _ ((HI.out _ _ _).2 ⟨v14, v15, v16, v17, v18, v19, v20, v21, _, _, rfl, (hW.setCell q2 _).setCell q2 _, Free.of_set (by decide) l0, Free.of_set (by decide) l1, Free.of_set (by decide) l2, Free.of_set (by decide) l3, Free.of_set (by decide) l4, Free.of_set (by decide) l5, Free.of_set (by decide) l6, Free.of_set (by decide) l7, fun _ => rfl, fun _ => ⟨_, _, _, rfl, q2, q3.set _ _, fun _ => ⟨rfl, rfl⟩⟩, fun _ => Free.fore (by decide) N.out⟩)
      case s3 =>
        intro listed aq W1 hall hsz hv
        obtain ⟨v14, v15, v16, v17, v18, v19, v20, v21, v22, v7, rfl, hW, l0, l1, l2, l3, l4, l5, l6, l7, l8, ln, lp⟩ := (HI.out _ _ _).1 hv
        clear hv HI
        obtain ⟨bn, cn, dn, rfl, hbn, hSn, q4⟩ := ln (Free.listed_of hall hsz 9 (by decide))
        obtain ⟨rfl, rfl⟩ := q4 (Free.listed_of hall hsz 10 (by decide))
        clear ln lp
        obtain rfl := l0 (Free.listed_of hall hsz 0 (by decide))
        obtain rfl := l1 (Free.listed_of hall hsz 1 (by decide))
        obtain rfl := l2 (Free.listed_of hall hsz 2 (by decide))
        obtain rfl := l3 (Free.listed_of hall hsz 3 (by decide))
        obtain rfl := l4 (Free.listed_of hall hsz 4 (by decide))
        obtain rfl := l5 (Free.listed_of hall hsz 5 (by decide))
        obtain rfl := l6 (Free.listed_of hall hsz 6 (by decide))
        obtain rfl := l7 (Free.listed_of hall hsz 7 (by decide))
        obtain rfl := l8 (Free.listed_of hall hsz 8 (by decide))
        clear hall hsz
        have y1 := hSn.lo
        have y2 := hSn.hi
        have hown1 := owns_step hown hW
        have hB1 := hBe.trans (hW.mono hBe.size)
        have hsz := hB1.size
        have HO := hid hown1
        have HBE := hid hB1
        clear hown hBe hB1 hA hB
        go_wp2_with (at_builtin; refine wpList_append_own _ rfl _ _ 29 rfl w.heap.size 28 i0 (.agg #[.int .i64 0, .int .i64 0]) 2 16 Tryd.underlying29 hi0 hz0 hz1 hz2 rfl (by decide) _ _ _ rfl (hown1.alloc _) _ 1 1 [.int .i64 S.1, .int .i64 S.2.1] rfl rfl (cell_two_new _ _ _ _) (by simp [Value.oneCell']) (by unfold maxLen; omega) (by omega) (by simp; omega) ?_; intro v' w1 hown' hgrow _)
        have HN := hid hown'
        have hb2 := (Below.refl w.heap.size (W1.alloc (.cells #[.int .i64 S.1, .int .i64 S.2.1] 28))).grown hgrow (by simp; omega) (fun j e => owns_from HO.out j e)
        exact ⟨⟨k + 1, by omega, by simp, by rw [HM.out, cellsOf_append]; exact HN.out, (HBE.out.alloc hsz _).trans hb2⟩, by simp [intOf]; omega⟩

    · obtain rfl : k = a.length := by omega
      have HQ := hid hown
      clear hown HD hA0 hB0
      go_wp2
      go_returns
      exact ⟨_, rfl, by rw [Um.hull_length]; exact HQ.out, hBe⟩
theorem rHullBox_any (a b : List (Int × Int)) (u v : Value) (w : World) (hs1 : Ls w.heap.size w u a) (hs2 : Ls w.heap.size w v b) (h : Um.boxesF a b = 0) :
    Calls Tryd.prog 19 #[u, v] w fun e w' => ∃ r, e = .returned r ∧ Ls w'.heap.size w' r (Um.hullN a b a.length) ∧ Below w.heap.size w w' := by
  refine (rHullBox_own a b u v w hs1 hs2 h).mono ?_
  rintro e w' ⟨r, h1, h2, h3⟩
  exact ⟨r, h1, ls_owns h2, h3⟩

end Go.Proofs.YthgehlonjoafmaaDoor
