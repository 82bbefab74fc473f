/-
  The walk over 'spanlaw1.BoxTells': for all a, b, x it returns true.
-/
import Derived.Test.YtmgabhphnafokaaDoorRefBox
import Derived.Test.YtmgabhphnafokaaDoorBoxH
import Derived.Test.YtmgabhphnafokaaDoorSame
import Derived.Deep.CutRange
namespace Go.Proofs.YtmgabhphnafokaaDoor.BTells
set_option linter.unusedSimpArgs false
open Go.RowKit

theorem has_len {q : List (Int × Int)} {x : List Int} (h : x.length = q.length) : Um.hasF q x = Um.boxF q := by
  unfold Um.hasF
  rw [if_pos h]
  split
  · rename_i e; rw [e]
  · rfl
theorem has_not {q : List (Int × Int)} {x : List Int} (h : ¬ Um.boxF q = 0) : Um.hasF q x = Um.boxF q ∧ hasA q x = false := by
  have e : Um.hasF q x = Um.boxF q := by unfold Um.hasF; rw [if_neg h]
  refine ⟨e, ?_⟩
  unfold hasA
  rw [e, decide_eq_false h]
  rfl
theorem has_shape {q : List (Int × Int)} {x : List Int} (h : Um.boxF q = 0) (h2 : ¬ x.length = q.length) : Um.hasF q x = 3 ∧ hasA q x = false := by
  have e : Um.hasF q x = 3 := by unfold Um.hasF; rw [if_pos h, if_neg h2]
  refine ⟨e, ?_⟩
  unfold hasA
  rw [e]
  rfl
theorem within_not {a b : List (Int × Int)} (h : ¬ Um.boxesF a b = 0) : withinA a b = false ∧ hullA a b = [] ∧ meetA a b = ([], Um.boxesF a b) := by
  unfold withinA hullA meetA
  rw [decide_eq_false h, if_neg h, if_neg h]
  exact ⟨rfl, rfl, rfl⟩
theorem within_yes {a b : List (Int × Int)} (h : Um.boxesF a b = 0) : withinA a b = Um.withinB a b ∧ hullA a b = Um.hullN a b a.length ∧ meetA a b = Um.meetN a b a.length := by
  unfold withinA hullA meetA
  rw [decide_eq_true h, if_pos h, if_pos h]
  exact ⟨rfl, rfl, rfl⟩
theorem meet_most {a b : List (Int × Int)} (h : Um.boxesF a b = 0) : (Um.meetN a b a.length).1.length ≤ 1000 := by
  have := (Um.box_len (Um.boxes_ok.1 h).1).2
  by_cases hm : (Um.meetN a b a.length).2 = 0
  · rw [(Um.meetN_ok hm).1]; omega
  · rw [(Um.meetN_fault a b a.length).resolve_left hm]; simp

set_option maxRecDepth 100000 in
set_option maxHeartbeats 8000000 in
theorem walk_a (a b : List (Int × Int)) (u v : Value) (x : List Int) (t : Value) (w : World) (hg : HasErr w) (ha : Ls w.heap.size w u a) (hb0 : Ls w.heap.size w v b) (hl : Li w.heap.size w t x) (h : ¬ Um.boxF a = 0) :
    Calls Tryd.prog 3 #[u, v, t] w fun e w' => e = .returned (.bool true) ∧ Below w.heap.size w w' := by
  have v0 := errV_none
  have q1 := errG
  have q2 := errGn
  have q3 := errE
  have q4 := errN
  have hF := Fr.start w
  obtain ⟨a0, ca, rfl, -⟩ := (id ha)
  obtain ⟨b0, cb, rfl, -⟩ := (id hb0)
  obtain ⟨x0, cx, rfl, -⟩ := (id hl)
  have HRB := fun w h => hid (rBox_any a (.slice a0 a.length ca) w h)
  have HCK := fun w h => hid (bcheck_any a (.slice a0 a.length ca) w h)
  have HBH := fun w h1 h2 => hid (bhas_any a (.slice a0 a.length ca) x (.slice x0 x.length cx) w h1 h2)
  have HRS := fun w h1 h2 => hid (rBoxes_any a b (.slice a0 a.length ca) (.slice b0 b.length cb) w h1 h2)
  have HBW := fun w h1 h2 => hid (bwithin_any a (.slice a0 a.length ca) b (.slice b0 b.length cb) w h1 h2)
  have HBU := fun w h1 h2 => hid (bhull_any a b (.slice a0 a.length ca) (.slice b0 b.length cb) w h1 h2)
  have HBM := fun w h1 h2 => hid (bmeet_any a b (.slice a0 a.length ca) (.slice b0 b.length cb) w h1 h2)
  have HBV := fun w h => hid (bhalve_any a (.slice a0 a.length ca) w h)
  have e1 : Um.boxesF a b = Um.boxF a := bothF_a h
  have hn : ¬ Um.boxesF a b = 0 := by rw [e1]; exact h
  rw [(has_not h).1, (has_not h).2] at HBH
  rw [(within_not hn).1, e1] at HBW
  rw [e1] at HRS
  simp only [(within_not hn).2.1, e1] at HBU
  rw [(within_not hn).2.2, e1] at HBM
  unfold halfL halfH at HBV
  rw [if_neg h, if_neg h] at HBV
  have kG : (Um.boxF a == 0) = false := by simpa using h
  clear h e1 hn
  generalize Um.boxF a = G at *
  go_enter Tryd.func3, Tryd.ntmps3
  go_upto_region 2 with (go_at_call 7; refine (HRB _ (hF.ls ha)).out.mono ?_; rintro e wn ⟨rfl, hb⟩; replace hF := hF.step hb; clear hb; clear HRB)
  go_upto_region 3 with (first | (go_at_call 9; refine (HCK _ (hF.ls ha)).out.mono ?_; rintro e wn ⟨rfl, hb⟩; replace hF := hF.step hb; clear hb; clear HCK) | (go_at_call 8; refine (hid (same_any _ _ _ (hg.below (B := w.heap.size) hF.below hg.size))).out.mono ?_; rintro e wn ⟨rfl, hb⟩; replace hF := hF.step hb; clear hb))
  go_upto_region 7 with fail
  go_upto_region 8 with (go_at_call 11; refine (HBH _ (hF.ls ha) (hF.li hl)).out.mono ?_; rintro e wn ⟨rfl, hb⟩; replace hF := hF.step hb; clear hb; clear HBH)
  go_upto_region 9 with (go_at_call 8; refine (hid (same_any _ _ _ (hg.below (B := w.heap.size) hF.below hg.size))).out.mono ?_; rintro e wn ⟨rfl, hb⟩; replace hF := hF.step hb; clear hb)
  go_upto_region 10 with (go_at_call 12; refine (HRS _ (hF.ls ha) (hF.ls hb0)).out.mono ?_; rintro e wn ⟨rfl, hb⟩; replace hF := hF.step hb; clear hb; clear HRS)
  go_upto_region 12 with fail
  go_upto_region 13 with (go_at_call 14; refine (HBW _ (hF.ls ha) (hF.ls hb0)).out.mono ?_; rintro e wn ⟨rfl, hb⟩; replace hF := hF.step hb; clear hb; clear HBW)
  go_upto_region 14 with (go_at_call 8; refine (hid (same_any _ _ _ (hg.below (B := w.heap.size) hF.below hg.size))).out.mono ?_; rintro e wn ⟨rfl, hb⟩; replace hF := hF.step hb; clear hb)
  go_upto_region 17 with fail
  go_upto_region 18 with (go_at_call 16; refine (HBU _ (hF.ls ha) (hF.ls hb0)).out.mono ?_; rintro e wn ⟨r2, rfl, hh, hb⟩; replace hF := hF.step hb; clear hb; obtain ⟨s2, c2, rfl, -⟩ := (id hh); clear HBU)
  go_upto_region 19 with (first | (go_at_call 8; refine (hid (same_any _ _ _ (hg.below (B := w.heap.size) hF.below hg.size))).out.mono ?_; rintro e wn ⟨rfl, hb⟩; replace hh := hh.step hb; replace hF := hF.step hb; clear hb) | (go_at_call 17; refine (hid (box_same [] _ _ _ hh (Ls.nil _ _) (by simp))).out.mono ?_; rintro e wn ⟨rfl, hb⟩; replace hF := hF.step hb; clear hb; clear hh))
  go_upto_region 22 with fail
  go_upto_region 23 with (go_at_call 19; refine (HBM _ (hF.ls ha) (hF.ls hb0)).out.mono ?_; rintro e wn ⟨r4, rfl, hh, hb⟩; replace hF := hF.step hb; clear hb; obtain ⟨s4, c4, rfl, -⟩ := (id hh); clear HBM)
  go_upto_region 24 with (first | (go_at_call 8; refine (hid (same_any _ _ _ (hg.below (B := w.heap.size) hF.below hg.size))).out.mono ?_; rintro e wn ⟨rfl, hb⟩; replace hh := hh.step hb; replace hF := hF.step hb; clear hb) | (go_at_call 17; refine (hid (box_same [] _ _ _ hh (Ls.nil _ _) (by simp))).out.mono ?_; rintro e wn ⟨rfl, hb⟩; replace hF := hF.step hb; clear hb; clear hh))
  go_upto_region 27 with fail
  go_upto_region 28 with (go_at_call 21; refine (HBV _ (hF.ls ha)).out.mono ?_; rintro e wn ⟨r7, r8, rfl, hh, hk, hb⟩; replace hF := hF.step hb; clear hb; obtain ⟨s7, c7, rfl, -⟩ := (id hh); obtain ⟨s8, c8, rfl, -⟩ := (id hk); clear HBV)
  go_wp2_with (first | (go_at_call 8; refine (hid (same_any _ _ _ (hg.below (B := w.heap.size) hF.below hg.size))).out.mono ?_; rintro e wn ⟨rfl, hb⟩; replace hh := hh.step hb; replace hk := hk.step hb; replace hF := hF.step hb; clear hb) | (go_at_call 17; refine (hid (box_same [] _ _ _ hh (Ls.nil _ _) (by simp))).out.mono ?_; rintro e wn ⟨rfl, hb⟩; replace hk := hk.step hb; replace hF := hF.step hb; clear hb; clear hh) | (go_at_call 17; refine (hid (box_same [] _ _ _ hk (Ls.nil _ _) (by simp))).out.mono ?_; rintro e wn ⟨rfl, hb⟩; replace hF := hF.step hb; clear hb; clear hk))
  go_returns
  exact ⟨rfl, hF.below⟩

set_option maxRecDepth 100000 in
set_option maxHeartbeats 8000000 in
theorem walk_xb (a b : List (Int × Int)) (u v : Value) (x : List Int) (t : Value) (w : World) (hg : HasErr w) (ha : Ls w.heap.size w u a) (hb0 : Ls w.heap.size w v b) (hl : Li w.heap.size w t x) (h : Um.boxF a = 0) (hx : x.length = a.length) (hn : Um.boxesF a b = 0) :
    Calls Tryd.prog 3 #[u, v, t] w fun e w' => e = .returned (.bool true) ∧ Below w.heap.size w w' := by
  have v0 := errV_none
  have q1 := errG
  have q2 := errGn
  have q3 := errE
  have q4 := errN
  have hF := Fr.start w
  obtain ⟨a0, ca, rfl, -⟩ := (id ha)
  obtain ⟨b0, cb, rfl, -⟩ := (id hb0)
  obtain ⟨x0, cx, rfl, -⟩ := (id hl)
  have HRB := fun w h => hid (rBox_any a (.slice a0 a.length ca) w h)
  have HCK := fun w h => hid (bcheck_any a (.slice a0 a.length ca) w h)
  have HBH := fun w h1 h2 => hid (bhas_any a (.slice a0 a.length ca) x (.slice x0 x.length cx) w h1 h2)
  have HRS := fun w h1 h2 => hid (rBoxes_any a b (.slice a0 a.length ca) (.slice b0 b.length cb) w h1 h2)
  have HBW := fun w h1 h2 => hid (bwithin_any a (.slice a0 a.length ca) b (.slice b0 b.length cb) w h1 h2)
  have HBU := fun w h1 h2 => hid (bhull_any a b (.slice a0 a.length ca) (.slice b0 b.length cb) w h1 h2)
  have HBM := fun w h1 h2 => hid (bmeet_any a b (.slice a0 a.length ca) (.slice b0 b.length cb) w h1 h2)
  have HBV := fun w h => hid (bhalve_any a (.slice a0 a.length ca) w h)
  have HRV := fun w h' => hid (rHalve_any a (.slice a0 a.length ca) w h' h)
  unfold halfL halfH at HBV
  rw [if_pos h, if_pos h] at HBV
  have PAL : Hid ((Um.halfA a).length ≤ 1000) := by rw [Um.halfA_len]; have := (Um.box_len h).2; show a.length ≤ 1000; omega
  have PBL : Hid ((Um.halfB a).length ≤ 1000) := by rw [Um.halfB_len]; have := (Um.box_len h).2; show a.length ≤ 1000; omega
  have kG : (Um.boxF a == 0) = true := by simpa using h
  have e2 := has_len hx
  have HRH := fun w h1 h2 => hid (rHas_any a (.slice a0 a.length ca) x (.slice x0 x.length cx) w h1 h2 (by rw [e2]; exact h))
  have e3 : hasA a x = Um.hasB a x := by unfold hasA; rw [e2, decide_eq_true h]; simp
  rw [e3, e2] at HBH
  have kx : ((x.length : Int) != (a.length : Int)) = false := by simp [hx]
  obtain ⟨e4, e5, e6⟩ := within_yes hn
  have HRW := fun w h1 h2 => hid (rWithin_any a (.slice a0 a.length ca) b (.slice b0 b.length cb) w h1 h2 hn)
  have HRU := fun w h1 h2 => hid (rHullBox_any a b (.slice a0 a.length ca) (.slice b0 b.length cb) w h1 h2 hn)
  have HRM := fun w h1 h2 => hid (rMeetBox_any a b (.slice a0 a.length ca) (.slice b0 b.length cb) w h1 h2 hn)
  rw [e4] at HBW
  simp only [e5] at HBU
  rw [e6] at HBM
  have MQL := hid (meet_most hn)
  have HQL : (Um.hullN a b a.length).length ≤ 3 := by rw [Um.hull_length]; exact (Um.box_len h).2
  have kE : (Um.boxesF a b == 0) = true := by simpa using hn
  clear h hx hn e4 e5 e6 e2 e3
  generalize Um.boxF a = G at *
  generalize Um.boxesF a b = E at *
  generalize Um.halfA a = PA at *
  generalize Um.halfB a = PB at *
  generalize Um.hasB a x = I at *
  generalize Um.withinB a b = J at *
  generalize Um.hullN a b a.length = HQ at *
  generalize Um.meetN a b a.length = MQ at *
  go_enter Tryd.func3, Tryd.ntmps3
  go_upto_region 2 with (go_at_call 7; refine (HRB _ (hF.ls ha)).out.mono ?_; rintro e wn ⟨rfl, hb⟩; replace hF := hF.step hb; clear hb; clear HRB)
  go_upto_region 3 with (first | (go_at_call 9; refine (HCK _ (hF.ls ha)).out.mono ?_; rintro e wn ⟨rfl, hb⟩; replace hF := hF.step hb; clear hb; clear HCK) | (go_at_call 8; refine (hid (same_any _ _ _ (hg.below (B := w.heap.size) hF.below hg.size))).out.mono ?_; rintro e wn ⟨rfl, hb⟩; replace hF := hF.step hb; clear hb))
  go_upto_region 7 with (go_at_call 10; refine (HRH _ (hF.ls ha) (hF.li hl)).out.mono ?_; rintro e wn ⟨rfl, hb⟩; replace hF := hF.step hb; clear hb; clear HRH)
  go_upto_region 8 with (go_at_call 11; refine (HBH _ (hF.ls ha) (hF.li hl)).out.mono ?_; rintro e wn ⟨rfl, hb⟩; replace hF := hF.step hb; clear hb; clear HBH)
  go_upto_region 9 with (go_at_call 8; refine (hid (same_any _ _ _ (hg.below (B := w.heap.size) hF.below hg.size))).out.mono ?_; rintro e wn ⟨rfl, hb⟩; replace hF := hF.step hb; clear hb)
  go_upto_region 10 with (go_at_call 12; refine (HRS _ (hF.ls ha) (hF.ls hb0)).out.mono ?_; rintro e wn ⟨rfl, hb⟩; replace hF := hF.step hb; clear hb; clear HRS)
  go_upto_region 12 with (go_at_call 13; refine (HRW _ (hF.ls ha) (hF.ls hb0)).out.mono ?_; rintro e wn ⟨rfl, hb⟩; replace hF := hF.step hb; clear hb; clear HRW)
  go_upto_region 13 with (go_at_call 14; refine (HBW _ (hF.ls ha) (hF.ls hb0)).out.mono ?_; rintro e wn ⟨rfl, hb⟩; replace hF := hF.step hb; clear hb; clear HBW)
  go_upto_region 14 with (go_at_call 8; refine (hid (same_any _ _ _ (hg.below (B := w.heap.size) hF.below hg.size))).out.mono ?_; rintro e wn ⟨rfl, hb⟩; replace hF := hF.step hb; clear hb)
  go_upto_region 17 with (go_at_call 15; refine (HRU _ (hF.ls ha) (hF.ls hb0)).out.mono ?_; rintro e wn ⟨r1, rfl, hw, hb⟩; replace hF := hF.step hb; clear hb; obtain ⟨s1, c1, rfl, -⟩ := (id hw); clear HRU)
  go_upto_region 18 with (go_at_call 16; refine (HBU _ (hF.ls ha) (hF.ls hb0)).out.mono ?_; rintro e wn ⟨r2, rfl, hh, hb⟩; replace hw := hw.step hb; replace hF := hF.step hb; clear hb; obtain ⟨s2, c2, rfl, -⟩ := (id hh); clear HBU)
  go_upto_region 19 with (first | (go_at_call 8; refine (hid (same_any _ _ _ (hg.below (B := w.heap.size) hF.below hg.size))).out.mono ?_; rintro e wn ⟨rfl, hb⟩; replace hh := hh.step hb; replace hw := hw.step hb; replace hF := hF.step hb; clear hb) | (go_at_call 17; refine (hid (box_same HQ _ _ _ hh hw (by omega))).out.mono ?_; rintro e wn ⟨rfl, hb⟩; replace hF := hF.step hb; clear hb; clear hh hw))
  go_upto_region 22 with (go_at_call 18; refine (HRM _ (hF.ls ha) (hF.ls hb0)).out.mono ?_; rintro e wn ⟨r3, rfl, hw, hb⟩; replace hF := hF.step hb; clear hb; obtain ⟨s3, c3, rfl, -⟩ := (id hw); clear HRM)
  go_upto_region 23 with (go_at_call 19; refine (HBM _ (hF.ls ha) (hF.ls hb0)).out.mono ?_; rintro e wn ⟨r4, rfl, hh, hb⟩; replace hw := hw.step hb; replace hF := hF.step hb; clear hb; obtain ⟨s4, c4, rfl, -⟩ := (id hh); clear HBM)
  go_upto_region 24 with (first | (go_at_call 8; refine (hid (same_any _ _ _ (hg.below (B := w.heap.size) hF.below hg.size))).out.mono ?_; rintro e wn ⟨rfl, hb⟩; replace hh := hh.step hb; replace hw := hw.step hb; replace hF := hF.step hb; clear hb) | (go_at_call 17; refine (hid (box_same MQ.1 _ _ _ hh hw MQL.out)).out.mono ?_; rintro e wn ⟨rfl, hb⟩; replace hF := hF.step hb; clear hb; clear hh hw))
  go_upto_region 27 with (go_at_call 20; refine (HRV _ (hF.ls ha)).out.mono ?_; rintro e wn ⟨r5, r6, rfl, hw, hv, hb⟩; replace hF := hF.step hb; clear hb; obtain ⟨s5, c5, rfl, -⟩ := (id hw); obtain ⟨s6, c6, rfl, -⟩ := (id hv); clear HRV)
  go_upto_region 28 with (go_at_call 21; refine (HBV _ (hF.ls ha)).out.mono ?_; rintro e wn ⟨r7, r8, rfl, hh, hk, hb⟩; replace hw := hw.step hb; replace hv := hv.step hb; replace hF := hF.step hb; clear hb; obtain ⟨s7, c7, rfl, -⟩ := (id hh); obtain ⟨s8, c8, rfl, -⟩ := (id hk); clear HBV)
  go_wp2_with (first | (go_at_call 8; refine (hid (same_any _ _ _ (hg.below (B := w.heap.size) hF.below hg.size))).out.mono ?_; rintro e wn ⟨rfl, hb⟩; replace hh := hh.step hb; replace hk := hk.step hb; replace hw := hw.step hb; replace hv := hv.step hb; replace hF := hF.step hb; clear hb) | (go_at_call 17; refine (hid (box_same PA _ _ _ hh hw PAL.out)).out.mono ?_; rintro e wn ⟨rfl, hb⟩; replace hk := hk.step hb; replace hv := hv.step hb; replace hF := hF.step hb; clear hb; clear hh hw) | (go_at_call 17; refine (hid (box_same PB _ _ _ hk hv PBL.out)).out.mono ?_; rintro e wn ⟨rfl, hb⟩; replace hF := hF.step hb; clear hb; clear hk hv))
  go_returns
  exact ⟨rfl, hF.below⟩

set_option maxRecDepth 100000 in
set_option maxHeartbeats 8000000 in
theorem walk_xn (a b : List (Int × Int)) (u v : Value) (x : List Int) (t : Value) (w : World) (hg : HasErr w) (ha : Ls w.heap.size w u a) (hb0 : Ls w.heap.size w v b) (hl : Li w.heap.size w t x) (h : Um.boxF a = 0) (hx : x.length = a.length) (hn : ¬ Um.boxesF a b = 0) :
    Calls Tryd.prog 3 #[u, v, t] w fun e w' => e = .returned (.bool true) ∧ Below w.heap.size w w' := by
  have v0 := errV_none
  have q1 := errG
  have q2 := errGn
  have q3 := errE
  have q4 := errN
  have hF := Fr.start w
  obtain ⟨a0, ca, rfl, -⟩ := (id ha)
  obtain ⟨b0, cb, rfl, -⟩ := (id hb0)
  obtain ⟨x0, cx, rfl, -⟩ := (id hl)
  have HRB := fun w h => hid (rBox_any a (.slice a0 a.length ca) w h)
  have HCK := fun w h => hid (bcheck_any a (.slice a0 a.length ca) w h)
  have HBH := fun w h1 h2 => hid (bhas_any a (.slice a0 a.length ca) x (.slice x0 x.length cx) w h1 h2)
  have HRS := fun w h1 h2 => hid (rBoxes_any a b (.slice a0 a.length ca) (.slice b0 b.length cb) w h1 h2)
  have HBW := fun w h1 h2 => hid (bwithin_any a (.slice a0 a.length ca) b (.slice b0 b.length cb) w h1 h2)
  have HBU := fun w h1 h2 => hid (bhull_any a b (.slice a0 a.length ca) (.slice b0 b.length cb) w h1 h2)
  have HBM := fun w h1 h2 => hid (bmeet_any a b (.slice a0 a.length ca) (.slice b0 b.length cb) w h1 h2)
  have HBV := fun w h => hid (bhalve_any a (.slice a0 a.length ca) w h)
  have HRV := fun w h' => hid (rHalve_any a (.slice a0 a.length ca) w h' h)
  unfold halfL halfH at HBV
  rw [if_pos h, if_pos h] at HBV
  have PAL : Hid ((Um.halfA a).length ≤ 1000) := by rw [Um.halfA_len]; have := (Um.box_len h).2; show a.length ≤ 1000; omega
  have PBL : Hid ((Um.halfB a).length ≤ 1000) := by rw [Um.halfB_len]; have := (Um.box_len h).2; show a.length ≤ 1000; omega
  have kG : (Um.boxF a == 0) = true := by simpa using h
  have e2 := has_len hx
  have HRH := fun w h1 h2 => hid (rHas_any a (.slice a0 a.length ca) x (.slice x0 x.length cx) w h1 h2 (by rw [e2]; exact h))
  have e3 : hasA a x = Um.hasB a x := by unfold hasA; rw [e2, decide_eq_true h]; simp
  rw [e3, e2] at HBH
  have kx : ((x.length : Int) != (a.length : Int)) = false := by simp [hx]
  obtain ⟨e4, e5, e6⟩ := within_not hn
  rw [e4] at HBW
  simp only [e5] at HBU
  rw [e6] at HBM
  have kE : (Um.boxesF a b == 0) = false := by simpa using hn
  clear h hx hn e4 e5 e6 e2 e3
  generalize Um.boxF a = G at *
  generalize Um.boxesF a b = E at *
  generalize Um.halfA a = PA at *
  generalize Um.halfB a = PB at *
  generalize Um.hasB a x = I at *
  go_enter Tryd.func3, Tryd.ntmps3
  go_upto_region 2 with (go_at_call 7; refine (HRB _ (hF.ls ha)).out.mono ?_; rintro e wn ⟨rfl, hb⟩; replace hF := hF.step hb; clear hb; clear HRB)
  go_upto_region 3 with (first | (go_at_call 9; refine (HCK _ (hF.ls ha)).out.mono ?_; rintro e wn ⟨rfl, hb⟩; replace hF := hF.step hb; clear hb; clear HCK) | (go_at_call 8; refine (hid (same_any _ _ _ (hg.below (B := w.heap.size) hF.below hg.size))).out.mono ?_; rintro e wn ⟨rfl, hb⟩; replace hF := hF.step hb; clear hb))
  go_upto_region 7 with (go_at_call 10; refine (HRH _ (hF.ls ha) (hF.li hl)).out.mono ?_; rintro e wn ⟨rfl, hb⟩; replace hF := hF.step hb; clear hb; clear HRH)
  go_upto_region 8 with (go_at_call 11; refine (HBH _ (hF.ls ha) (hF.li hl)).out.mono ?_; rintro e wn ⟨rfl, hb⟩; replace hF := hF.step hb; clear hb; clear HBH)
  go_upto_region 9 with (go_at_call 8; refine (hid (same_any _ _ _ (hg.below (B := w.heap.size) hF.below hg.size))).out.mono ?_; rintro e wn ⟨rfl, hb⟩; replace hF := hF.step hb; clear hb)
  go_upto_region 10 with (go_at_call 12; refine (HRS _ (hF.ls ha) (hF.ls hb0)).out.mono ?_; rintro e wn ⟨rfl, hb⟩; replace hF := hF.step hb; clear hb; clear HRS)
  go_upto_region 12 with fail
  go_upto_region 13 with (go_at_call 14; refine (HBW _ (hF.ls ha) (hF.ls hb0)).out.mono ?_; rintro e wn ⟨rfl, hb⟩; replace hF := hF.step hb; clear hb; clear HBW)
  go_upto_region 14 with (go_at_call 8; refine (hid (same_any _ _ _ (hg.below (B := w.heap.size) hF.below hg.size))).out.mono ?_; rintro e wn ⟨rfl, hb⟩; replace hF := hF.step hb; clear hb)
  go_upto_region 17 with fail
  go_upto_region 18 with (go_at_call 16; refine (HBU _ (hF.ls ha) (hF.ls hb0)).out.mono ?_; rintro e wn ⟨r2, rfl, hh, hb⟩; replace hF := hF.step hb; clear hb; obtain ⟨s2, c2, rfl, -⟩ := (id hh); clear HBU)
  go_upto_region 19 with (first | (go_at_call 8; refine (hid (same_any _ _ _ (hg.below (B := w.heap.size) hF.below hg.size))).out.mono ?_; rintro e wn ⟨rfl, hb⟩; replace hh := hh.step hb; replace hF := hF.step hb; clear hb) | (go_at_call 17; refine (hid (box_same [] _ _ _ hh (Ls.nil _ _) (by simp))).out.mono ?_; rintro e wn ⟨rfl, hb⟩; replace hF := hF.step hb; clear hb; clear hh))
  go_upto_region 22 with fail
  go_upto_region 23 with (go_at_call 19; refine (HBM _ (hF.ls ha) (hF.ls hb0)).out.mono ?_; rintro e wn ⟨r4, rfl, hh, hb⟩; replace hF := hF.step hb; clear hb; obtain ⟨s4, c4, rfl, -⟩ := (id hh); clear HBM)
  go_upto_region 24 with (first | (go_at_call 8; refine (hid (same_any _ _ _ (hg.below (B := w.heap.size) hF.below hg.size))).out.mono ?_; rintro e wn ⟨rfl, hb⟩; replace hh := hh.step hb; replace hF := hF.step hb; clear hb) | (go_at_call 17; refine (hid (box_same [] _ _ _ hh (Ls.nil _ _) (by simp))).out.mono ?_; rintro e wn ⟨rfl, hb⟩; replace hF := hF.step hb; clear hb; clear hh))
  go_upto_region 27 with (go_at_call 20; refine (HRV _ (hF.ls ha)).out.mono ?_; rintro e wn ⟨r5, r6, rfl, hw, hv, hb⟩; replace hF := hF.step hb; clear hb; obtain ⟨s5, c5, rfl, -⟩ := (id hw); obtain ⟨s6, c6, rfl, -⟩ := (id hv); clear HRV)
  go_upto_region 28 with (go_at_call 21; refine (HBV _ (hF.ls ha)).out.mono ?_; rintro e wn ⟨r7, r8, rfl, hh, hk, hb⟩; replace hw := hw.step hb; replace hv := hv.step hb; replace hF := hF.step hb; clear hb; obtain ⟨s7, c7, rfl, -⟩ := (id hh); obtain ⟨s8, c8, rfl, -⟩ := (id hk); clear HBV)
  go_wp2_with (first | (go_at_call 8; refine (hid (same_any _ _ _ (hg.below (B := w.heap.size) hF.below hg.size))).out.mono ?_; rintro e wn ⟨rfl, hb⟩; replace hh := hh.step hb; replace hk := hk.step hb; replace hw := hw.step hb; replace hv := hv.step hb; replace hF := hF.step hb; clear hb) | (go_at_call 17; refine (hid (box_same PA _ _ _ hh hw PAL.out)).out.mono ?_; rintro e wn ⟨rfl, hb⟩; replace hk := hk.step hb; replace hv := hv.step hb; replace hF := hF.step hb; clear hb; clear hh hw) | (go_at_call 17; refine (hid (box_same PB _ _ _ hk hv PBL.out)).out.mono ?_; rintro e wn ⟨rfl, hb⟩; replace hF := hF.step hb; clear hb; clear hk hv))
  go_returns
  exact ⟨rfl, hF.below⟩

set_option maxRecDepth 100000 in
set_option maxHeartbeats 8000000 in
theorem walk_nb (a b : List (Int × Int)) (u v : Value) (x : List Int) (t : Value) (w : World) (hg : HasErr w) (ha : Ls w.heap.size w u a) (hb0 : Ls w.heap.size w v b) (hl : Li w.heap.size w t x) (h : Um.boxF a = 0) (hx : ¬ x.length = a.length) (hn : Um.boxesF a b = 0) :
    Calls Tryd.prog 3 #[u, v, t] w fun e w' => e = .returned (.bool true) ∧ Below w.heap.size w w' := by
  have v0 := errV_none
  have q1 := errG
  have q2 := errGn
  have q3 := errE
  have q4 := errN
  have hF := Fr.start w
  obtain ⟨a0, ca, rfl, -⟩ := (id ha)
  obtain ⟨b0, cb, rfl, -⟩ := (id hb0)
  obtain ⟨x0, cx, rfl, -⟩ := (id hl)
  have HRB := fun w h => hid (rBox_any a (.slice a0 a.length ca) w h)
  have HCK := fun w h => hid (bcheck_any a (.slice a0 a.length ca) w h)
  have HBH := fun w h1 h2 => hid (bhas_any a (.slice a0 a.length ca) x (.slice x0 x.length cx) w h1 h2)
  have HRS := fun w h1 h2 => hid (rBoxes_any a b (.slice a0 a.length ca) (.slice b0 b.length cb) w h1 h2)
  have HBW := fun w h1 h2 => hid (bwithin_any a (.slice a0 a.length ca) b (.slice b0 b.length cb) w h1 h2)
  have HBU := fun w h1 h2 => hid (bhull_any a b (.slice a0 a.length ca) (.slice b0 b.length cb) w h1 h2)
  have HBM := fun w h1 h2 => hid (bmeet_any a b (.slice a0 a.length ca) (.slice b0 b.length cb) w h1 h2)
  have HBV := fun w h => hid (bhalve_any a (.slice a0 a.length ca) w h)
  have HRV := fun w h' => hid (rHalve_any a (.slice a0 a.length ca) w h' h)
  unfold halfL halfH at HBV
  rw [if_pos h, if_pos h] at HBV
  have PAL : Hid ((Um.halfA a).length ≤ 1000) := by rw [Um.halfA_len]; have := (Um.box_len h).2; show a.length ≤ 1000; omega
  have PBL : Hid ((Um.halfB a).length ≤ 1000) := by rw [Um.halfB_len]; have := (Um.box_len h).2; show a.length ≤ 1000; omega
  have kG : (Um.boxF a == 0) = true := by simpa using h
  rw [(has_shape h hx).1, (has_shape h hx).2] at HBH
  have kx : ((x.length : Int) != (a.length : Int)) = true := by simp; omega
  obtain ⟨e4, e5, e6⟩ := within_yes hn
  have HRW := fun w h1 h2 => hid (rWithin_any a (.slice a0 a.length ca) b (.slice b0 b.length cb) w h1 h2 hn)
  have HRU := fun w h1 h2 => hid (rHullBox_any a b (.slice a0 a.length ca) (.slice b0 b.length cb) w h1 h2 hn)
  have HRM := fun w h1 h2 => hid (rMeetBox_any a b (.slice a0 a.length ca) (.slice b0 b.length cb) w h1 h2 hn)
  rw [e4] at HBW
  simp only [e5] at HBU
  rw [e6] at HBM
  have MQL := hid (meet_most hn)
  have HQL : (Um.hullN a b a.length).length ≤ 3 := by rw [Um.hull_length]; exact (Um.box_len h).2
  have kE : (Um.boxesF a b == 0) = true := by simpa using hn
  clear h hx hn e4 e5 e6
  generalize Um.boxF a = G at *
  generalize Um.boxesF a b = E at *
  generalize Um.halfA a = PA at *
  generalize Um.halfB a = PB at *
  generalize Um.withinB a b = J at *
  generalize Um.hullN a b a.length = HQ at *
  generalize Um.meetN a b a.length = MQ at *
  go_enter Tryd.func3, Tryd.ntmps3
  go_upto_region 2 with (go_at_call 7; refine (HRB _ (hF.ls ha)).out.mono ?_; rintro e wn ⟨rfl, hb⟩; replace hF := hF.step hb; clear hb; clear HRB)
  go_upto_region 3 with (first | (go_at_call 9; refine (HCK _ (hF.ls ha)).out.mono ?_; rintro e wn ⟨rfl, hb⟩; replace hF := hF.step hb; clear hb; clear HCK) | (go_at_call 8; refine (hid (same_any _ _ _ (hg.below (B := w.heap.size) hF.below hg.size))).out.mono ?_; rintro e wn ⟨rfl, hb⟩; replace hF := hF.step hb; clear hb))
  go_upto_region 7 with fail
  go_upto_region 8 with (go_at_call 11; refine (HBH _ (hF.ls ha) (hF.li hl)).out.mono ?_; rintro e wn ⟨rfl, hb⟩; replace hF := hF.step hb; clear hb; clear HBH)
  go_upto_region 9 with (go_at_call 8; refine (hid (same_any _ _ _ (hg.below (B := w.heap.size) hF.below hg.size))).out.mono ?_; rintro e wn ⟨rfl, hb⟩; replace hF := hF.step hb; clear hb)
  go_upto_region 10 with (go_at_call 12; refine (HRS _ (hF.ls ha) (hF.ls hb0)).out.mono ?_; rintro e wn ⟨rfl, hb⟩; replace hF := hF.step hb; clear hb; clear HRS)
  go_upto_region 12 with (go_at_call 13; refine (HRW _ (hF.ls ha) (hF.ls hb0)).out.mono ?_; rintro e wn ⟨rfl, hb⟩; replace hF := hF.step hb; clear hb; clear HRW)
  go_upto_region 13 with (go_at_call 14; refine (HBW _ (hF.ls ha) (hF.ls hb0)).out.mono ?_; rintro e wn ⟨rfl, hb⟩; replace hF := hF.step hb; clear hb; clear HBW)
  go_upto_region 14 with (go_at_call 8; refine (hid (same_any _ _ _ (hg.below (B := w.heap.size) hF.below hg.size))).out.mono ?_; rintro e wn ⟨rfl, hb⟩; replace hF := hF.step hb; clear hb)
  go_upto_region 17 with (go_at_call 15; refine (HRU _ (hF.ls ha) (hF.ls hb0)).out.mono ?_; rintro e wn ⟨r1, rfl, hw, hb⟩; replace hF := hF.step hb; clear hb; obtain ⟨s1, c1, rfl, -⟩ := (id hw); clear HRU)
  go_upto_region 18 with (go_at_call 16; refine (HBU _ (hF.ls ha) (hF.ls hb0)).out.mono ?_; rintro e wn ⟨r2, rfl, hh, hb⟩; replace hw := hw.step hb; replace hF := hF.step hb; clear hb; obtain ⟨s2, c2, rfl, -⟩ := (id hh); clear HBU)
  go_upto_region 19 with (first | (go_at_call 8; refine (hid (same_any _ _ _ (hg.below (B := w.heap.size) hF.below hg.size))).out.mono ?_; rintro e wn ⟨rfl, hb⟩; replace hh := hh.step hb; replace hw := hw.step hb; replace hF := hF.step hb; clear hb) | (go_at_call 17; refine (hid (box_same HQ _ _ _ hh hw (by omega))).out.mono ?_; rintro e wn ⟨rfl, hb⟩; replace hF := hF.step hb; clear hb; clear hh hw))
  go_upto_region 22 with (go_at_call 18; refine (HRM _ (hF.ls ha) (hF.ls hb0)).out.mono ?_; rintro e wn ⟨r3, rfl, hw, hb⟩; replace hF := hF.step hb; clear hb; obtain ⟨s3, c3, rfl, -⟩ := (id hw); clear HRM)
  go_upto_region 23 with (go_at_call 19; refine (HBM _ (hF.ls ha) (hF.ls hb0)).out.mono ?_; rintro e wn ⟨r4, rfl, hh, hb⟩; replace hw := hw.step hb; replace hF := hF.step hb; clear hb; obtain ⟨s4, c4, rfl, -⟩ := (id hh); clear HBM)
  go_upto_region 24 with (first | (go_at_call 8; refine (hid (same_any _ _ _ (hg.below (B := w.heap.size) hF.below hg.size))).out.mono ?_; rintro e wn ⟨rfl, hb⟩; replace hh := hh.step hb; replace hw := hw.step hb; replace hF := hF.step hb; clear hb) | (go_at_call 17; refine (hid (box_same MQ.1 _ _ _ hh hw MQL.out)).out.mono ?_; rintro e wn ⟨rfl, hb⟩; replace hF := hF.step hb; clear hb; clear hh hw))
  go_upto_region 27 with (go_at_call 20; refine (HRV _ (hF.ls ha)).out.mono ?_; rintro e wn ⟨r5, r6, rfl, hw, hv, hb⟩; replace hF := hF.step hb; clear hb; obtain ⟨s5, c5, rfl, -⟩ := (id hw); obtain ⟨s6, c6, rfl, -⟩ := (id hv); clear HRV)
  go_upto_region 28 with (go_at_call 21; refine (HBV _ (hF.ls ha)).out.mono ?_; rintro e wn ⟨r7, r8, rfl, hh, hk, hb⟩; replace hw := hw.step hb; replace hv := hv.step hb; replace hF := hF.step hb; clear hb; obtain ⟨s7, c7, rfl, -⟩ := (id hh); obtain ⟨s8, c8, rfl, -⟩ := (id hk); clear HBV)
  go_wp2_with (first | (go_at_call 8; refine (hid (same_any _ _ _ (hg.below (B := w.heap.size) hF.below hg.size))).out.mono ?_; rintro e wn ⟨rfl, hb⟩; replace hh := hh.step hb; replace hk := hk.step hb; replace hw := hw.step hb; replace hv := hv.step hb; replace hF := hF.step hb; clear hb) | (go_at_call 17; refine (hid (box_same PA _ _ _ hh hw PAL.out)).out.mono ?_; rintro e wn ⟨rfl, hb⟩; replace hk := hk.step hb; replace hv := hv.step hb; replace hF := hF.step hb; clear hb; clear hh hw) | (go_at_call 17; refine (hid (box_same PB _ _ _ hk hv PBL.out)).out.mono ?_; rintro e wn ⟨rfl, hb⟩; replace hF := hF.step hb; clear hb; clear hk hv))
  go_returns
  exact ⟨rfl, hF.below⟩

set_option maxRecDepth 100000 in
set_option maxHeartbeats 8000000 in
theorem walk_nn (a b : List (Int × Int)) (u v : Value) (x : List Int) (t : Value) (w : World) (hg : HasErr w) (ha : Ls w.heap.size w u a) (hb0 : Ls w.heap.size w v b) (hl : Li w.heap.size w t x) (h : Um.boxF a = 0) (hx : ¬ x.length = a.length) (hn : ¬ Um.boxesF a b = 0) :
    Calls Tryd.prog 3 #[u, v, t] w fun e w' => e = .returned (.bool true) ∧ Below w.heap.size w w' := by
  have v0 := errV_none
  have q1 := errG
  have q2 := errGn
  have q3 := errE
  have q4 := errN
  have hF := Fr.start w
  obtain ⟨a0, ca, rfl, -⟩ := (id ha)
  obtain ⟨b0, cb, rfl, -⟩ := (id hb0)
  obtain ⟨x0, cx, rfl, -⟩ := (id hl)
  have HRB := fun w h => hid (rBox_any a (.slice a0 a.length ca) w h)
  have HCK := fun w h => hid (bcheck_any a (.slice a0 a.length ca) w h)
  have HBH := fun w h1 h2 => hid (bhas_any a (.slice a0 a.length ca) x (.slice x0 x.length cx) w h1 h2)
  have HRS := fun w h1 h2 => hid (rBoxes_any a b (.slice a0 a.length ca) (.slice b0 b.length cb) w h1 h2)
  have HBW := fun w h1 h2 => hid (bwithin_any a (.slice a0 a.length ca) b (.slice b0 b.length cb) w h1 h2)
  have HBU := fun w h1 h2 => hid (bhull_any a b (.slice a0 a.length ca) (.slice b0 b.length cb) w h1 h2)
  have HBM := fun w h1 h2 => hid (bmeet_any a b (.slice a0 a.length ca) (.slice b0 b.length cb) w h1 h2)
  have HBV := fun w h => hid (bhalve_any a (.slice a0 a.length ca) w h)
  have HRV := fun w h' => hid (rHalve_any a (.slice a0 a.length ca) w h' h)
  unfold halfL halfH at HBV
  rw [if_pos h, if_pos h] at HBV
  have PAL : Hid ((Um.halfA a).length ≤ 1000) := by rw [Um.halfA_len]; have := (Um.box_len h).2; show a.length ≤ 1000; omega
  have PBL : Hid ((Um.halfB a).length ≤ 1000) := by rw [Um.halfB_len]; have := (Um.box_len h).2; show a.length ≤ 1000; omega
  have kG : (Um.boxF a == 0) = true := by simpa using h
  rw [(has_shape h hx).1, (has_shape h hx).2] at HBH
  have kx : ((x.length : Int) != (a.length : Int)) = true := by simp; omega
  obtain ⟨e4, e5, e6⟩ := within_not hn
  rw [e4] at HBW
  simp only [e5] at HBU
  rw [e6] at HBM
  have kE : (Um.boxesF a b == 0) = false := by simpa using hn
  clear h hx hn e4 e5 e6
  generalize Um.boxF a = G at *
  generalize Um.boxesF a b = E at *
  generalize Um.halfA a = PA at *
  generalize Um.halfB a = PB at *
  go_enter Tryd.func3, Tryd.ntmps3
  go_upto_region 2 with (go_at_call 7; refine (HRB _ (hF.ls ha)).out.mono ?_; rintro e wn ⟨rfl, hb⟩; replace hF := hF.step hb; clear hb; clear HRB)
  go_upto_region 3 with (first | (go_at_call 9; refine (HCK _ (hF.ls ha)).out.mono ?_; rintro e wn ⟨rfl, hb⟩; replace hF := hF.step hb; clear hb; clear HCK) | (go_at_call 8; refine (hid (same_any _ _ _ (hg.below (B := w.heap.size) hF.below hg.size))).out.mono ?_; rintro e wn ⟨rfl, hb⟩; replace hF := hF.step hb; clear hb))
  go_upto_region 7 with fail
  go_upto_region 8 with (go_at_call 11; refine (HBH _ (hF.ls ha) (hF.li hl)).out.mono ?_; rintro e wn ⟨rfl, hb⟩; replace hF := hF.step hb; clear hb; clear HBH)
  go_upto_region 9 with (go_at_call 8; refine (hid (same_any _ _ _ (hg.below (B := w.heap.size) hF.below hg.size))).out.mono ?_; rintro e wn ⟨rfl, hb⟩; replace hF := hF.step hb; clear hb)
  go_upto_region 10 with (go_at_call 12; refine (HRS _ (hF.ls ha) (hF.ls hb0)).out.mono ?_; rintro e wn ⟨rfl, hb⟩; replace hF := hF.step hb; clear hb; clear HRS)
  go_upto_region 12 with fail
  go_upto_region 13 with (go_at_call 14; refine (HBW _ (hF.ls ha) (hF.ls hb0)).out.mono ?_; rintro e wn ⟨rfl, hb⟩; replace hF := hF.step hb; clear hb; clear HBW)
  go_upto_region 14 with (go_at_call 8; refine (hid (same_any _ _ _ (hg.below (B := w.heap.size) hF.below hg.size))).out.mono ?_; rintro e wn ⟨rfl, hb⟩; replace hF := hF.step hb; clear hb)
  go_upto_region 17 with fail
  go_upto_region 18 with (go_at_call 16; refine (HBU _ (hF.ls ha) (hF.ls hb0)).out.mono ?_; rintro e wn ⟨r2, rfl, hh, hb⟩; replace hF := hF.step hb; clear hb; obtain ⟨s2, c2, rfl, -⟩ := (id hh); clear HBU)
  go_upto_region 19 with (first | (go_at_call 8; refine (hid (same_any _ _ _ (hg.below (B := w.heap.size) hF.below hg.size))).out.mono ?_; rintro e wn ⟨rfl, hb⟩; replace hh := hh.step hb; replace hF := hF.step hb; clear hb) | (go_at_call 17; refine (hid (box_same [] _ _ _ hh (Ls.nil _ _) (by simp))).out.mono ?_; rintro e wn ⟨rfl, hb⟩; replace hF := hF.step hb; clear hb; clear hh))
  go_upto_region 22 with fail
  go_upto_region 23 with (go_at_call 19; refine (HBM _ (hF.ls ha) (hF.ls hb0)).out.mono ?_; rintro e wn ⟨r4, rfl, hh, hb⟩; replace hF := hF.step hb; clear hb; obtain ⟨s4, c4, rfl, -⟩ := (id hh); clear HBM)
  go_upto_region 24 with (first | (go_at_call 8; refine (hid (same_any _ _ _ (hg.below (B := w.heap.size) hF.below hg.size))).out.mono ?_; rintro e wn ⟨rfl, hb⟩; replace hh := hh.step hb; replace hF := hF.step hb; clear hb) | (go_at_call 17; refine (hid (box_same [] _ _ _ hh (Ls.nil _ _) (by simp))).out.mono ?_; rintro e wn ⟨rfl, hb⟩; replace hF := hF.step hb; clear hb; clear hh))
  go_upto_region 27 with (go_at_call 20; refine (HRV _ (hF.ls ha)).out.mono ?_; rintro e wn ⟨r5, r6, rfl, hw, hv, hb⟩; replace hF := hF.step hb; clear hb; obtain ⟨s5, c5, rfl, -⟩ := (id hw); obtain ⟨s6, c6, rfl, -⟩ := (id hv); clear HRV)
  go_upto_region 28 with (go_at_call 21; refine (HBV _ (hF.ls ha)).out.mono ?_; rintro e wn ⟨r7, r8, rfl, hh, hk, hb⟩; replace hw := hw.step hb; replace hv := hv.step hb; replace hF := hF.step hb; clear hb; obtain ⟨s7, c7, rfl, -⟩ := (id hh); obtain ⟨s8, c8, rfl, -⟩ := (id hk); clear HBV)
  go_wp2_with (first | (go_at_call 8; refine (hid (same_any _ _ _ (hg.below (B := w.heap.size) hF.below hg.size))).out.mono ?_; rintro e wn ⟨rfl, hb⟩; replace hh := hh.step hb; replace hk := hk.step hb; replace hw := hw.step hb; replace hv := hv.step hb; replace hF := hF.step hb; clear hb) | (go_at_call 17; refine (hid (box_same PA _ _ _ hh hw PAL.out)).out.mono ?_; rintro e wn ⟨rfl, hb⟩; replace hk := hk.step hb; replace hv := hv.step hb; replace hF := hF.step hb; clear hb; clear hh hw) | (go_at_call 17; refine (hid (box_same PB _ _ _ hk hv PBL.out)).out.mono ?_; rintro e wn ⟨rfl, hb⟩; replace hF := hF.step hb; clear hb; clear hk hv))
  go_returns
  exact ⟨rfl, hF.below⟩

theorem walk (a : List (Int × Int)) (u : Value) (b : List (Int × Int)) (v : Value) (x : List Int) (t : Value) (w : World) (hg : HasErr w) (ha : Ls w.heap.size w u a) (hb0 : Ls w.heap.size w v b) (hl : Li w.heap.size w t x) :
    Calls Tryd.prog 3 #[u, v, t] w fun e w' => e = .returned (.bool true) ∧ Below w.heap.size w w' := by
  by_cases h : Um.boxF a = 0
  case neg => exact walk_a a b u v x t w hg ha hb0 hl h
  by_cases hx : x.length = a.length
  · by_cases hn : Um.boxesF a b = 0
    · exact walk_xb a b u v x t w hg ha hb0 hl h hx hn
    · exact walk_xn a b u v x t w hg ha hb0 hl h hx hn
  · by_cases hn : Um.boxesF a b = 0
    · exact walk_nb a b u v x t w hg ha hb0 hl h hx hn
    · exact walk_nn a b u v x t w hg ha hb0 hl h hx hn
end Go.Proofs.YtmgabhphnafokaaDoor.BTells
