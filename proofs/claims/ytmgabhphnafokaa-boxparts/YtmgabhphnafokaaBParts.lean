/-
  The walk over 'spanlaw1.BoxParts': for all a, b, x it returns true.
-/
import Derived.Test.YtmgabhphnafokaaBoxH
import Derived.Test.YtmgabhphnafokaaBoxM
import Derived.Test.YtmgabhphnafokaaBoxV
import Derived.Test.YtmgabhphnafokaaRefSplit
import Derived.Deep.CutRange
namespace Go.Proofs.Ytmgabhphnafokaa.BParts
set_option linter.unusedSimpArgs false
open Go.RowKit

theorem lit_ls {w : World} {b : Nat} (T : TypeId) (hb : b = w.heap.size) : Ls (w.alloc (.cells #[.int .i64 0, .int .i64 4, .int .i64 0, .int .i64 9] T)).heap.size (w.alloc (.cells #[.int .i64 0, .int .i64 4, .int .i64 0, .int .i64 9] T)) (.slice (some ⟨b, 0, none⟩) 2 2) [(0, 4), (0, 9)] := by
  subst hb
  have h := Blk.new w T #[.int .i64 0, .int .i64 4, .int .i64 0, .int .i64 9]
  refine ⟨_, 2, rfl, Nat.le_refl _, .inr ⟨w.heap.size, 0, rfl, h.lt, fun j hj => ?_⟩⟩
  rcases (by simp at hj; omega : j = 0 ∨ j = 1) with rfl | rfl
  · exact ⟨h.cell 0 rfl, h.cell 1 rfl⟩
  · exact ⟨h.cell 2 rfl, h.cell 3 rfl⟩
theorem lit_box : Um.boxF [(0, 4), (0, 9)] = 0 := by decide +kernel
theorem lit_a : halfL [(0, 4), (0, 9)] = [(0, 4), (0, 4)] := by decide +kernel
theorem lit_b : halfH [(0, 4), (0, 9)] = [(0, 4), (4, 9)] := by decide +kernel
theorem hasF_ok {q : List (Int × Int)} {x : List Int} : Um.hasF q x = 0 ↔ Um.boxF q = 0 ∧ x.length = q.length := by
  unfold Um.hasF
  constructor
  · intro h
    split at h
    · rename_i h1
      split at h
      · rename_i h2; exact ⟨h1, h2⟩
      · cases h
    · rename_i h1; exact absurd h h1
  · rintro ⟨h1, h2⟩; rw [if_pos h1, if_pos h2]
theorem hasA_ok {q : List (Int × Int)} {x : List Int} (h : Um.hasF q x = 0) : hasA q x = Um.hasB q x := by unfold hasA; rw [h]; simp
theorem half_or {a : List (Int × Int)} {x : List Int} (h : Um.boxF a = 0) : Um.hasB a x = (Um.hasB (Um.halfA a) x || Um.hasB (Um.halfB a) x) := by
  unfold Um.hasB
  rw [← Bool.decide_or, decide_eq_decide]
  exact Um.half_has h
theorem within_yes {a b : List (Int × Int)} (h : Um.boxesF a b = 0) (h2 : Um.withinP a b) : withinA a b = true := by
  unfold withinA Um.withinB
  rw [h]
  simp only [decide_true, Bool.true_and]
  exact decide_eq_true h2
theorem both_is {a b : List (Int × Int)} {x : List Int} (h : a.length = b.length) (hm : (Um.meetN a b a.length).2 = 0) : Um.hasB (Um.meetN a b a.length).1 x = (Um.hasB a x && Um.hasB b x) := by
  unfold Um.hasB
  rw [← Bool.decide_and, decide_eq_decide]
  exact Um.meet_has h hm
theorem both_no {a b : List (Int × Int)} {x : List Int} (h : a.length = b.length) (hm : ¬ (Um.meetN a b a.length).2 = 0) : (Um.hasB a x && Um.hasB b x) = false := by
  unfold Um.hasB
  rw [← Bool.decide_and]
  exact decide_eq_false (Um.meet_none h hm)

set_option maxRecDepth 100000 in
set_option maxHeartbeats 8000000 in
theorem walk_out (a b : List (Int × Int)) (u v : Value) (x : List Int) (t : Value) (w : World) (ha : Ls w.heap.size w u a) (hb0 : Ls w.heap.size w v b) (hl : Li w.heap.size w t x) (h : ¬ Um.hasF a x = 0) :
    Calls Try.prog 3 #[u, v, t] w fun e w' => e = .returned (.bool true) ∧ Below w.heap.size w w' := by
  have v0 := errV_none
  have q1 := errG
  have q2 := errGn
  have q3 := errE
  have q4 := errN
  have hF := Fr.start w
  have H0 := fun v w h => hid (bhalve_any [(0, 4), (0, 9)] v w h)
  rw [lit_box, lit_a, lit_b] at H0
  obtain ⟨a0, ca, rfl, -⟩ := (id ha)
  obtain ⟨b0, cb, rfl, -⟩ := (id hb0)
  obtain ⟨x0, cx, rfl, -⟩ := (id hl)
  have HA := fun w hs hl => hid (bhas_any a (.slice a0 a.length ca) x (.slice x0 x.length cx) w hs hl)
  have kk : (Um.hasF a x != 0) = true := by simpa using h
  clear h
  generalize hasA a x = I at *
  generalize Um.hasF a x = G at *
  go_enter Try.func3, Try.ntmps3
  go_upto_region 4 with (go_at_call 10; refine (H0 _ _ (lit_ls _ rfl)).out.mono ?_; rintro e wn ⟨r1, r2, rfl, p1, p2, hb⟩; replace hF := (hF.alloc _).step hb; clear hb H0; obtain ⟨b1, o1, c1, rfl, k1, A1⟩ := p1.open (by simp); obtain ⟨b2, o2, c2, rfl, k2, A2⟩ := p2.open (by simp); clear p1 p2; have z1 := A1.hi 1 rfl (o := o1 + 2 + 1) rfl; have z2 := A2.lo 1 rfl (o := o2 + 2) rfl; have z3 := A1.hi 0 rfl (o := o1 + 1) rfl; clear A1 A2)
  go_wp2_with (go_at_call 11; refine (HA _ (hF.ls ha) (hF.li hl)).out.mono ?_; rintro e wn ⟨rfl, hb⟩; replace hF := hF.step hb; clear hb)
  go_returns
  exact ⟨rfl, hF.below⟩

set_option maxRecDepth 100000 in
set_option maxHeartbeats 8000000 in
theorem walk_b (a b : List (Int × Int)) (u v : Value) (x : List Int) (t : Value) (w : World) (ha : Ls w.heap.size w u a) (hb0 : Ls w.heap.size w v b) (hl : Li w.heap.size w t x) (h : Um.hasF a x = 0) (hb1 : ¬ Um.hasF b x = 0) :
    Calls Try.prog 3 #[u, v, t] w fun e w' => e = .returned (.bool true) ∧ Below w.heap.size w w' := by
  have v0 := errV_none
  have q1 := errG
  have q2 := errGn
  have q3 := errE
  have q4 := errN
  have hF := Fr.start w
  have H0 := fun v w h => hid (bhalve_any [(0, 4), (0, 9)] v w h)
  rw [lit_box, lit_a, lit_b] at H0
  obtain ⟨a0, ca, rfl, -⟩ := (id ha)
  obtain ⟨b0, cb, rfl, -⟩ := (id hb0)
  obtain ⟨x0, cx, rfl, -⟩ := (id hl)
  have HA := fun w hs hl => hid (bhas_any a (.slice a0 a.length ca) x (.slice x0 x.length cx) w hs hl)
  obtain ⟨ba, hla⟩ := hasF_ok.1 h
  have hla' := Um.box_len ba
  obtain ⟨fa, fb⟩ := Um.half_box ba
  have HV := fun w hs => hid (bhalve_any a (.slice a0 a.length ca) w hs)
  unfold halfL halfH at HV
  rw [if_pos ba, if_pos ba, ba] at HV
  have ey : Um.hasF (Um.halfA a) x = 0 := hasF_ok.2 ⟨fa, by rw [Um.halfA_len]; exact hla⟩
  have ez : Um.hasF (Um.halfB a) x = 0 := hasF_ok.2 ⟨fb, by rw [Um.halfB_len]; exact hla⟩
  have HY := fun v w hs hl => hid (bhas_any (Um.halfA a) v x (.slice x0 x.length cx) w hs hl)
  have HZ := fun v w hs hl => hid (bhas_any (Um.halfB a) v x (.slice x0 x.length cx) w hs hl)
  rw [hasA_ok h, h] at HA
  rw [hasA_ok ey, ey] at HY
  rw [hasA_ok ez, ez] at HZ
  have HU := fun u v w h1 h2 => hid (bhull_any (Um.halfA a) (Um.halfB a) u v w h1 h2)
  have e3 : Um.boxesF (Um.halfA a) (Um.halfB a) = 0 := Um.boxes_ok.2 ⟨fa, fb, by rw [Um.halfA_len, Um.halfB_len]⟩
  have e3h : hullA (Um.halfA a) (Um.halfB a) = a := by unfold hullA; rw [if_pos e3, Um.halfA_len, Um.half_hull ba]
  simp only [e3, e3h] at HU
  have HB := fun u w h1 h2 => hid (box_same a u (.slice a0 a.length ca) w h1 h2 (by omega))
  have E1 := hid (half_or (x := x) ba)
  clear ba hla hla' fa fb ey ez e3 e3h h
  have HBX := fun w hs hl => hid (bhas_any b (.slice b0 b.length cb) x (.slice x0 x.length cx) w hs hl)
  have kk : (Um.hasF b x != 0) = true := by simpa using hb1
  clear hb1
  generalize hasA b x = I at *
  generalize Um.hasF b x = G at *
  generalize Um.halfA a = ya at *
  generalize Um.halfB a = za at *
  generalize Um.hasB ya x = l at *
  generalize Um.hasB za x = r at *
  generalize Um.hasB a x = i at *
  go_enter Try.func3, Try.ntmps3
  go_upto_region 4 with (go_at_call 10; refine (H0 _ _ (lit_ls _ rfl)).out.mono ?_; rintro e wn ⟨r1, r2, rfl, p1, p2, hb⟩; replace hF := (hF.alloc _).step hb; clear hb H0; obtain ⟨b1, o1, c1, rfl, k1, A1⟩ := p1.open (by simp); obtain ⟨b2, o2, c2, rfl, k2, A2⟩ := p2.open (by simp); clear p1 p2; have z1 := A1.hi 1 rfl (o := o1 + 2 + 1) rfl; have z2 := A2.lo 1 rfl (o := o2 + 2) rfl; have z3 := A1.hi 0 rfl (o := o1 + 1) rfl; clear A1 A2)
  clear z1 z2 z3 k1 k2
  go_upto_region 7 with (go_at_call 11; refine (HA _ (hF.ls ha) (hF.li hl)).out.mono ?_; rintro e wn ⟨rfl, hb⟩; replace hF := hF.step hb; clear hb)
  go_upto_region 10 with (go_at_call 10; refine (HV _ (hF.ls ha)).out.mono ?_; rintro e wn ⟨r1, r2, rfl, hy, hz, hb⟩; replace hF := hF.step hb; clear hb; obtain ⟨y0, cy, rfl, -⟩ := (id hy); obtain ⟨z0, cz, rfl, -⟩ := (id hz); clear HV)
  go_upto_region 11 with (go_at_call 11; refine (HY _ _ hy (hF.li hl)).out.mono ?_; rintro e wn ⟨rfl, hb⟩; replace hy := hy.step hb; replace hz := hz.step hb; replace hF := hF.step hb; clear hb; clear HY)
  go_upto_region 12 with (go_at_call 11; refine (HZ _ _ hz (hF.li hl)).out.mono ?_; rintro e wn ⟨rfl, hb⟩; replace hy := hy.step hb; replace hz := hz.step hb; replace hF := hF.step hb; clear hb; clear HZ)
  go_upto_region 13 with (go_at_call 12; refine (HU _ _ _ hy hz).out.mono ?_; rintro e wn ⟨r3, rfl, hh, hb⟩; replace hF := hF.step hb; clear hb; clear hy hz HU; obtain ⟨h0, ch, rfl, -⟩ := (id hh))
  clear HA
  go_cut [125] from 102 to 125 (fun v wr => v = .bool false ∧ Fr w wr [])
  case first =>
    have e1 := E1.out
    clear E1
    subst e1
    cases l
    all_goals
      cases r
      all_goals
        go_wp2_with (go_at_call 13; refine (HB _ _ hh (hF.ls ha)).out.mono ?_; rintro e wn ⟨rfl, hb⟩; replace hF := hF.step hb; clear hb; clear HB)
        go_meet
        case rel => exact ⟨rfl, hF⟩
  case rest =>
    clear hF hh HB E1
    obtain ⟨rfl, hF⟩ := hcut
    go_wp2_with (go_at_call 11; refine (HBX _ (hF.ls hb0) (hF.li hl)).out.mono ?_; rintro e wn ⟨rfl, hb⟩; replace hF := hF.step hb; clear hb; clear HBX)
    go_returns
    exact ⟨rfl, hF.below⟩

set_option maxRecDepth 100000 in
set_option maxHeartbeats 8000000 in
theorem walk_none (a b : List (Int × Int)) (u v : Value) (x : List Int) (t : Value) (w : World) (ha : Ls w.heap.size w u a) (hb0 : Ls w.heap.size w v b) (hl : Li w.heap.size w t x) (h : Um.hasF a x = 0) (hb1 : Um.hasF b x = 0) (hm0 : ¬ (Um.meetN a b a.length).2 = 0) :
    Calls Try.prog 3 #[u, v, t] w fun e w' => e = .returned (.bool true) ∧ Below w.heap.size w w' := by
  have v0 := errV_none
  have q1 := errG
  have q2 := errGn
  have q3 := errE
  have q4 := errN
  have hF := Fr.start w
  have H0 := fun v w h => hid (bhalve_any [(0, 4), (0, 9)] v w h)
  rw [lit_box, lit_a, lit_b] at H0
  obtain ⟨a0, ca, rfl, -⟩ := (id ha)
  obtain ⟨b0, cb, rfl, -⟩ := (id hb0)
  obtain ⟨x0, cx, rfl, -⟩ := (id hl)
  have HA := fun w hs hl => hid (bhas_any a (.slice a0 a.length ca) x (.slice x0 x.length cx) w hs hl)
  obtain ⟨ba, hla⟩ := hasF_ok.1 h
  have hla' := Um.box_len ba
  obtain ⟨fa, fb⟩ := Um.half_box ba
  have HV := fun w hs => hid (bhalve_any a (.slice a0 a.length ca) w hs)
  unfold halfL halfH at HV
  rw [if_pos ba, if_pos ba, ba] at HV
  have ey : Um.hasF (Um.halfA a) x = 0 := hasF_ok.2 ⟨fa, by rw [Um.halfA_len]; exact hla⟩
  have ez : Um.hasF (Um.halfB a) x = 0 := hasF_ok.2 ⟨fb, by rw [Um.halfB_len]; exact hla⟩
  have HY := fun v w hs hl => hid (bhas_any (Um.halfA a) v x (.slice x0 x.length cx) w hs hl)
  have HZ := fun v w hs hl => hid (bhas_any (Um.halfB a) v x (.slice x0 x.length cx) w hs hl)
  rw [hasA_ok h, h] at HA
  rw [hasA_ok ey, ey] at HY
  rw [hasA_ok ez, ez] at HZ
  have HU := fun u v w h1 h2 => hid (bhull_any (Um.halfA a) (Um.halfB a) u v w h1 h2)
  have e3 : Um.boxesF (Um.halfA a) (Um.halfB a) = 0 := Um.boxes_ok.2 ⟨fa, fb, by rw [Um.halfA_len, Um.halfB_len]⟩
  have e3h : hullA (Um.halfA a) (Um.halfB a) = a := by unfold hullA; rw [if_pos e3, Um.halfA_len, Um.half_hull ba]
  simp only [e3, e3h] at HU
  have HB := fun u w h1 h2 => hid (box_same a u (.slice a0 a.length ca) w h1 h2 (by omega))
  have E1 := hid (half_or (x := x) ba)
  have HBX := fun w hs hl => hid (bhas_any b (.slice b0 b.length cb) x (.slice x0 x.length cx) w hs hl)
  obtain ⟨bb, hlb⟩ := hasF_ok.1 hb1
  rw [hasA_ok hb1, hb1] at HBX
  have e4 : Um.boxesF a b = 0 := Um.boxes_ok.2 ⟨ba, bb, by omega⟩
  obtain ⟨g1, g2, g3⟩ := Um.hull_box e4
  have HU2 := fun w h1 h2 => hid (bhull_any a b (.slice a0 a.length ca) (.slice b0 b.length cb) w h1 h2)
  have e5 : hullA a b = Um.hullN a b a.length := by unfold hullA; rw [if_pos e4]
  simp only [e4, e5] at HU2
  have e6 : Um.boxesF a (Um.hullN a b a.length) = 0 := Um.boxes_ok.2 ⟨ba, g1, by rw [Um.hull_length]⟩
  have e7 : Um.boxesF b (Um.hullN a b a.length) = 0 := Um.boxes_ok.2 ⟨bb, g1, by rw [Um.hull_length]; omega⟩
  have HW1 := fun v w h1 h2 => hid (bwithin_any a (.slice a0 a.length ca) (Um.hullN a b a.length) v w h1 h2)
  have HW2 := fun v w h1 h2 => hid (bwithin_any b (.slice b0 b.length cb) (Um.hullN a b a.length) v w h1 h2)
  rw [within_yes e6 g2, e6] at HW1
  rw [within_yes e7 g3, e7] at HW2
  have HM := fun w h1 h2 => hid (bmeet_any a b (.slice a0 a.length ca) (.slice b0 b.length cb) w h1 h2)
  have e8 : meetA a b = Um.meetN a b a.length := by unfold meetA; rw [if_pos e4]
  rw [e8] at HM
  have km : ((Um.meetN a b a.length).2 != 0) = true := by simpa using hm0
  have E2 := hid (both_no (x := x) (by omega) hm0)
  clear bb hlb e4 g1 g2 g3 e5 e6 e7 e8 hb1 hm0
  clear ba hla hla' fa fb ey ez e3 e3h h
  generalize Um.halfA a = ya at *
  generalize Um.halfB a = za at *
  generalize Um.hasB ya x = l at *
  generalize Um.hasB za x = r at *
  generalize Um.hasB a x = i at *
  generalize Um.hasB b x = j at *
  generalize Um.hullN a b a.length = hq at *
  generalize Um.meetN a b a.length = mq at *
  go_enter Try.func3, Try.ntmps3
  go_upto_region 4 with (go_at_call 10; refine (H0 _ _ (lit_ls _ rfl)).out.mono ?_; rintro e wn ⟨r1, r2, rfl, p1, p2, hb⟩; replace hF := (hF.alloc _).step hb; clear hb H0; obtain ⟨b1, o1, c1, rfl, k1, A1⟩ := p1.open (by simp); obtain ⟨b2, o2, c2, rfl, k2, A2⟩ := p2.open (by simp); clear p1 p2; have z1 := A1.hi 1 rfl (o := o1 + 2 + 1) rfl; have z2 := A2.lo 1 rfl (o := o2 + 2) rfl; have z3 := A1.hi 0 rfl (o := o1 + 1) rfl; clear A1 A2)
  clear z1 z2 z3 k1 k2
  go_upto_region 7 with (go_at_call 11; refine (HA _ (hF.ls ha) (hF.li hl)).out.mono ?_; rintro e wn ⟨rfl, hb⟩; replace hF := hF.step hb; clear hb)
  go_upto_region 10 with (go_at_call 10; refine (HV _ (hF.ls ha)).out.mono ?_; rintro e wn ⟨r1, r2, rfl, hy, hz, hb⟩; replace hF := hF.step hb; clear hb; obtain ⟨y0, cy, rfl, -⟩ := (id hy); obtain ⟨z0, cz, rfl, -⟩ := (id hz); clear HV)
  go_upto_region 11 with (go_at_call 11; refine (HY _ _ hy (hF.li hl)).out.mono ?_; rintro e wn ⟨rfl, hb⟩; replace hy := hy.step hb; replace hz := hz.step hb; replace hF := hF.step hb; clear hb; clear HY)
  go_upto_region 12 with (go_at_call 11; refine (HZ _ _ hz (hF.li hl)).out.mono ?_; rintro e wn ⟨rfl, hb⟩; replace hy := hy.step hb; replace hz := hz.step hb; replace hF := hF.step hb; clear hb; clear HZ)
  go_upto_region 13 with (go_at_call 12; refine (HU _ _ _ hy hz).out.mono ?_; rintro e wn ⟨r3, rfl, hh, hb⟩; replace hF := hF.step hb; clear hb; clear hy hz HU; obtain ⟨h0, ch, rfl, -⟩ := (id hh))
  clear HA
  go_cut [125] from 102 to 125 (fun v wr => v = .bool false ∧ Fr w wr [])
  case first =>
    have e1 := E1.out
    clear E1
    subst e1
    cases l
    all_goals
      cases r
      all_goals
        go_wp2_with (go_at_call 13; refine (HB _ _ hh (hF.ls ha)).out.mono ?_; rintro e wn ⟨rfl, hb⟩; replace hF := hF.step hb; clear hb; clear HB)
        go_meet
        case rel => exact ⟨rfl, hF⟩
  case rest =>
    clear hF hh HB E1
    obtain ⟨rfl, hF⟩ := hcut
    go_upto_region 18 with (go_at_call 11; refine (HBX _ (hF.ls hb0) (hF.li hl)).out.mono ?_; rintro e wn ⟨rfl, hb⟩; replace hF := hF.step hb; clear hb; clear HBX)
    go_upto_region 21 with (go_at_call 12; refine (HU2 _ (hF.ls ha) (hF.ls hb0)).out.mono ?_; rintro e wn ⟨r3, rfl, hh, hb⟩; replace hF := hF.step hb; clear hb; clear HU2; obtain ⟨h0, ch, rfl, -⟩ := (id hh))
    go_upto_region 22 with (go_at_call 14; refine (HW1 _ _ (hF.ls ha) hh).out.mono ?_; rintro e wn ⟨rfl, hb⟩; replace hh := hh.step hb; replace hF := hF.step hb; clear hb; clear HW1)
    go_upto_region 23 with (go_at_call 14; refine (HW2 _ _ (hF.ls hb0) hh).out.mono ?_; rintro e wn ⟨rfl, hb⟩; replace hF := hF.step hb; clear hb; clear HW2 hh)
    go_upto_region 24 with (go_at_call 15; refine (HM _ (hF.ls ha) (hF.ls hb0)).out.mono ?_; rintro e wn ⟨r4, rfl, hm, hb⟩; replace hF := hF.step hb; clear hb; clear HM; obtain ⟨m0, cm, rfl, -⟩ := (id hm))
    have e2 := E2.out
    clear E2
    cases i
    all_goals
      cases j
      all_goals
        first
          | (cases e2; done)
          | (go_wp2
             go_returns
             exact ⟨rfl, hF.below⟩)

set_option maxRecDepth 100000 in
set_option maxHeartbeats 8000000 in
theorem walk_some (a b : List (Int × Int)) (u v : Value) (x : List Int) (t : Value) (w : World) (ha : Ls w.heap.size w u a) (hb0 : Ls w.heap.size w v b) (hl : Li w.heap.size w t x) (h : Um.hasF a x = 0) (hb1 : Um.hasF b x = 0) (hm0 : (Um.meetN a b a.length).2 = 0) :
    Calls Try.prog 3 #[u, v, t] w fun e w' => e = .returned (.bool true) ∧ Below w.heap.size w w' := by
  have v0 := errV_none
  have q1 := errG
  have q2 := errGn
  have q3 := errE
  have q4 := errN
  have hF := Fr.start w
  have H0 := fun v w h => hid (bhalve_any [(0, 4), (0, 9)] v w h)
  rw [lit_box, lit_a, lit_b] at H0
  obtain ⟨a0, ca, rfl, -⟩ := (id ha)
  obtain ⟨b0, cb, rfl, -⟩ := (id hb0)
  obtain ⟨x0, cx, rfl, -⟩ := (id hl)
  have HA := fun w hs hl => hid (bhas_any a (.slice a0 a.length ca) x (.slice x0 x.length cx) w hs hl)
  obtain ⟨ba, hla⟩ := hasF_ok.1 h
  have hla' := Um.box_len ba
  obtain ⟨fa, fb⟩ := Um.half_box ba
  have HV := fun w hs => hid (bhalve_any a (.slice a0 a.length ca) w hs)
  unfold halfL halfH at HV
  rw [if_pos ba, if_pos ba, ba] at HV
  have ey : Um.hasF (Um.halfA a) x = 0 := hasF_ok.2 ⟨fa, by rw [Um.halfA_len]; exact hla⟩
  have ez : Um.hasF (Um.halfB a) x = 0 := hasF_ok.2 ⟨fb, by rw [Um.halfB_len]; exact hla⟩
  have HY := fun v w hs hl => hid (bhas_any (Um.halfA a) v x (.slice x0 x.length cx) w hs hl)
  have HZ := fun v w hs hl => hid (bhas_any (Um.halfB a) v x (.slice x0 x.length cx) w hs hl)
  rw [hasA_ok h, h] at HA
  rw [hasA_ok ey, ey] at HY
  rw [hasA_ok ez, ez] at HZ
  have HU := fun u v w h1 h2 => hid (bhull_any (Um.halfA a) (Um.halfB a) u v w h1 h2)
  have e3 : Um.boxesF (Um.halfA a) (Um.halfB a) = 0 := Um.boxes_ok.2 ⟨fa, fb, by rw [Um.halfA_len, Um.halfB_len]⟩
  have e3h : hullA (Um.halfA a) (Um.halfB a) = a := by unfold hullA; rw [if_pos e3, Um.halfA_len, Um.half_hull ba]
  simp only [e3, e3h] at HU
  have HB := fun u w h1 h2 => hid (box_same a u (.slice a0 a.length ca) w h1 h2 (by omega))
  have E1 := hid (half_or (x := x) ba)
  have HBX := fun w hs hl => hid (bhas_any b (.slice b0 b.length cb) x (.slice x0 x.length cx) w hs hl)
  obtain ⟨bb, hlb⟩ := hasF_ok.1 hb1
  rw [hasA_ok hb1, hb1] at HBX
  have e4 : Um.boxesF a b = 0 := Um.boxes_ok.2 ⟨ba, bb, by omega⟩
  obtain ⟨g1, g2, g3⟩ := Um.hull_box e4
  have HU2 := fun w h1 h2 => hid (bhull_any a b (.slice a0 a.length ca) (.slice b0 b.length cb) w h1 h2)
  have e5 : hullA a b = Um.hullN a b a.length := by unfold hullA; rw [if_pos e4]
  simp only [e4, e5] at HU2
  have e6 : Um.boxesF a (Um.hullN a b a.length) = 0 := Um.boxes_ok.2 ⟨ba, g1, by rw [Um.hull_length]⟩
  have e7 : Um.boxesF b (Um.hullN a b a.length) = 0 := Um.boxes_ok.2 ⟨bb, g1, by rw [Um.hull_length]; omega⟩
  have HW1 := fun v w h1 h2 => hid (bwithin_any a (.slice a0 a.length ca) (Um.hullN a b a.length) v w h1 h2)
  have HW2 := fun v w h1 h2 => hid (bwithin_any b (.slice b0 b.length cb) (Um.hullN a b a.length) v w h1 h2)
  rw [within_yes e6 g2, e6] at HW1
  rw [within_yes e7 g3, e7] at HW2
  have HM := fun w h1 h2 => hid (bmeet_any a b (.slice a0 a.length ca) (.slice b0 b.length cb) w h1 h2)
  have e8 : meetA a b = Um.meetN a b a.length := by unfold meetA; rw [if_pos e4]
  rw [e8] at HM
  have km : ((Um.meetN a b a.length).2 != 0) = false := by simpa using hm0
  have HX := fun v w hs hl => hid (bhas_any (Um.meetN a b a.length).1 v x (.slice x0 x.length cx) w hs hl)
  have e9 : Um.hasF (Um.meetN a b a.length).1 x = 0 := hasF_ok.2 ⟨Um.meet_box e4 hm0, by rw [(Um.meetN_ok hm0).1]; exact hla⟩
  rw [hasA_ok e9, e9, both_is (by omega) hm0] at HX
  rw [hm0] at HM
  clear bb hlb e4 g1 g2 g3 e5 e6 e7 e8 hb1 hm0 e9
  clear ba hla hla' fa fb ey ez e3 e3h h
  generalize Um.halfA a = ya at *
  generalize Um.halfB a = za at *
  generalize Um.hasB ya x = l at *
  generalize Um.hasB za x = r at *
  generalize Um.hasB a x = i at *
  generalize Um.hasB b x = j at *
  generalize Um.hullN a b a.length = hq at *
  generalize Um.meetN a b a.length = mq at *
  go_enter Try.func3, Try.ntmps3
  go_upto_region 4 with (go_at_call 10; refine (H0 _ _ (lit_ls _ rfl)).out.mono ?_; rintro e wn ⟨r1, r2, rfl, p1, p2, hb⟩; replace hF := (hF.alloc _).step hb; clear hb H0; obtain ⟨b1, o1, c1, rfl, k1, A1⟩ := p1.open (by simp); obtain ⟨b2, o2, c2, rfl, k2, A2⟩ := p2.open (by simp); clear p1 p2; have z1 := A1.hi 1 rfl (o := o1 + 2 + 1) rfl; have z2 := A2.lo 1 rfl (o := o2 + 2) rfl; have z3 := A1.hi 0 rfl (o := o1 + 1) rfl; clear A1 A2)
  clear z1 z2 z3 k1 k2
  go_upto_region 7 with (go_at_call 11; refine (HA _ (hF.ls ha) (hF.li hl)).out.mono ?_; rintro e wn ⟨rfl, hb⟩; replace hF := hF.step hb; clear hb)
  go_upto_region 10 with (go_at_call 10; refine (HV _ (hF.ls ha)).out.mono ?_; rintro e wn ⟨r1, r2, rfl, hy, hz, hb⟩; replace hF := hF.step hb; clear hb; obtain ⟨y0, cy, rfl, -⟩ := (id hy); obtain ⟨z0, cz, rfl, -⟩ := (id hz); clear HV)
  go_upto_region 11 with (go_at_call 11; refine (HY _ _ hy (hF.li hl)).out.mono ?_; rintro e wn ⟨rfl, hb⟩; replace hy := hy.step hb; replace hz := hz.step hb; replace hF := hF.step hb; clear hb; clear HY)
  go_upto_region 12 with (go_at_call 11; refine (HZ _ _ hz (hF.li hl)).out.mono ?_; rintro e wn ⟨rfl, hb⟩; replace hy := hy.step hb; replace hz := hz.step hb; replace hF := hF.step hb; clear hb; clear HZ)
  go_upto_region 13 with (go_at_call 12; refine (HU _ _ _ hy hz).out.mono ?_; rintro e wn ⟨r3, rfl, hh, hb⟩; replace hF := hF.step hb; clear hb; clear hy hz HU; obtain ⟨h0, ch, rfl, -⟩ := (id hh))
  clear HA
  go_cut [125] from 102 to 125 (fun v wr => v = .bool false ∧ Fr w wr [])
  case first =>
    have e1 := E1.out
    clear E1
    subst e1
    cases l
    all_goals
      cases r
      all_goals
        go_wp2_with (go_at_call 13; refine (HB _ _ hh (hF.ls ha)).out.mono ?_; rintro e wn ⟨rfl, hb⟩; replace hF := hF.step hb; clear hb; clear HB)
        go_meet
        case rel => exact ⟨rfl, hF⟩
  case rest =>
    clear hF hh HB E1
    obtain ⟨rfl, hF⟩ := hcut
    go_upto_region 18 with (go_at_call 11; refine (HBX _ (hF.ls hb0) (hF.li hl)).out.mono ?_; rintro e wn ⟨rfl, hb⟩; replace hF := hF.step hb; clear hb; clear HBX)
    go_upto_region 21 with (go_at_call 12; refine (HU2 _ (hF.ls ha) (hF.ls hb0)).out.mono ?_; rintro e wn ⟨r3, rfl, hh, hb⟩; replace hF := hF.step hb; clear hb; clear HU2; obtain ⟨h0, ch, rfl, -⟩ := (id hh))
    go_upto_region 22 with (go_at_call 14; refine (HW1 _ _ (hF.ls ha) hh).out.mono ?_; rintro e wn ⟨rfl, hb⟩; replace hh := hh.step hb; replace hF := hF.step hb; clear hb; clear HW1)
    go_upto_region 23 with (go_at_call 14; refine (HW2 _ _ (hF.ls hb0) hh).out.mono ?_; rintro e wn ⟨rfl, hb⟩; replace hF := hF.step hb; clear hb; clear HW2 hh)
    go_upto_region 24 with (go_at_call 15; refine (HM _ (hF.ls ha) (hF.ls hb0)).out.mono ?_; rintro e wn ⟨r4, rfl, hm, hb⟩; replace hF := hF.step hb; clear hb; clear HM; obtain ⟨m0, cm, rfl, -⟩ := (id hm))
    cases i
    all_goals
      cases j
      all_goals
        go_wp2_with (go_at_call 11; refine (HX _ _ hm (hF.li hl)).out.mono ?_; rintro e wn ⟨rfl, hb⟩; replace hF := hF.step hb; clear hb)
        go_returns
        exact ⟨rfl, hF.below⟩

theorem walk (a : List (Int × Int)) (u : Value) (b : List (Int × Int)) (v : Value) (x : List Int) (t : Value) (w : World) (ha : Ls w.heap.size w u a) (hb0 : Ls w.heap.size w v b) (hl : Li w.heap.size w t x) :
    Calls Try.prog 3 #[u, v, t] w fun e w' => e = .returned (.bool true) ∧ Below w.heap.size w w' := by
  by_cases h : Um.hasF a x = 0
  case neg => exact walk_out a b u v x t w ha hb0 hl h
  by_cases hb1 : Um.hasF b x = 0
  case neg => exact walk_b a b u v x t w ha hb0 hl h hb1
  by_cases hm0 : (Um.meetN a b a.length).2 = 0
  · exact walk_some a b u v x t w ha hb0 hl h hb1 hm0
  · exact walk_none a b u v x t w ha hb0 hl h hb1 hm0
end Go.Proofs.Ytmgabhphnafokaa.BParts
