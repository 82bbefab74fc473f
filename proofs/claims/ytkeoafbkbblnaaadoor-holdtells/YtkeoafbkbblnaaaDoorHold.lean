/-
  What package hold answers: Is, Grow at every argument.
-/
import Derived.Test.YtkeoafbkbblnaaaDoorStep
import Derived.Test.YtkeoafbkbblnaaaDoorBoxV
import Derived.Test.YtkeoafbkbblnaaaDoorBoxM
import Derived.Test.YtkeoafbkbblnaaaDoorBoxH
import Derived.Test.YtkeoafbkbblnaaaDoorSpanAdd
import Derived.Test.YtkeoafbkbblnaaaDoorMaths3
namespace Um
theorem grown_four {h : List (Int × Int)} {y : Int} (e : ¬ (grownR h y).2 = 0) : (grownR h y).2 = 4 := by
  unfold grownR at e ⊢
  by_cases c : bigL (widerL h y) = true
  · rw [if_pos c]
  · rw [if_neg c] at e; exact absurd rfl e
theorem ofAll_nil {s : List (List Tm)} {p c : List (Int × Int)} (h : ¬ (ofAll s p c).2 = 0) : (ofAll s p c).1 = [] := by
  by_cases hr : readyF s p c = 0
  · rw [ofAll_yes hr] at h ⊢; rw [beh_four h]
  · rw [ofAll_not hr]
theorem growAll_nil {s : List (List Tm)} {p b : List (Int × Int)} {y n : Int} (h : ¬ (growAll s p b y n).2 = 0) : (growAll s p b y n).1 = [] := by
  unfold growAll at h ⊢
  by_cases c : growF s p b y n = 0
  · rw [if_pos c] at h ⊢; exact growR_none h
  · rw [if_neg c]
theorem growAll_len {s : List (List Tm)} {p b : List (Int × Int)} {y n : Int} (h : (growAll s p b y n).2 = 0) : 0 < (growAll s p b y n).1.length ∧ (growAll s p b y n).1.length ≤ 3 := by
  obtain ⟨h1, h2, h3⟩ := growAll_good h
  obtain ⟨⟨g0, _⟩, gr⟩ := growF_ok.1 h1
  rw [h2]
  have := (ready_ok.1 (grow_good g0 gr h3).1).2.1
  exact ⟨(box_len this).1, (box_len this).2⟩
end Um
namespace Go.Proofs.YtkeoafbkbblnaaaDoor
set_option linter.unusedSimpArgs false
open Go.RowKit

theorem Own.put {w : World} {base g cap : Nat} {q : List (Int × Int)} (h : Own w base g cap q) (j : Nat) (a b : Int) : Own ((w.setCell ⟨g, j * 2, none⟩ (.int .i64 a)).setCell ⟨g, j * 2 + 1, none⟩ (.int .i64 b)) base g cap (q.set j (a, b)) := by
  have h1 := (World.ownsRow.stored h (j * 2) (.int .i64 a)).1
  have h2 := (World.ownsRow.stored h1 (j * 2 + 1) (.int .i64 b)).1
  rw [cellsOf_set] at h2
  unfold Own
  rw [List.length_set]
  exact h2
theorem hold_within {s : List (List Um.Tm)} {p b : List (Int × Int)} (h : (Um.ofAll s p b).2 = 0) (u v : Value) (w : World) (hs1 : Ls w.heap.size w u (Um.ofAll s p b).1) (hs2 : Ls w.heap.size w v b) :
    Calls Tryd.prog 63 #[u, v] w fun e w' => e = .returned (.tuple #[.bool (Um.isB s p b), errV (Um.ofAll s p b).2]) ∧ Below w.heap.size w w' := by
  have := bwithin_any (Um.ofAll s p b).1 u b v w hs1 hs2
  obtain ⟨h0, e, h2⟩ := Um.ofAll_good h
  have hb : Um.boxesF (Um.ofAll s p b).1 b = 0 := by rw [e]; exact (Um.beh_boxes h0 h2).1
  have hi : withinA (Um.ofAll s p b).1 b = Um.isB s p b := by
    unfold withinA Um.isB
    rw [decide_eq_true hb, decide_eq_true h]
  rw [hb, hi] at this
  rw [h]
  exact this
theorem hold_hull {c d : List (Int × Int)} {K : Int} (h : Um.boxesF c d = 0) (hK : K = 0) (u v : Value) (w : World) (hs1 : Ls w.heap.size w u c) (hs2 : Ls w.heap.size w v d) :
    Calls Tryd.prog 62 #[u, v] w fun e w' => ∃ g cap, e = .returned (.tuple #[.slice (some ⟨g, 0, none⟩) (Um.hullN c d c.length).length cap, errV K]) ∧ Own w' w.heap.size g cap (Um.hullN c d c.length) ∧ Below w.heap.size w w' := by
  subst hK
  refine (bhull_own c d u v w hs1 hs2 h).mono ?_
  rintro e w' ⟨r, rfl, h2, h3⟩
  obtain ⟨g, cap, rfl, o⟩ := owns_open h2 (by rw [Um.hull_length]; exact (Um.box_len (Um.boxes_ok.1 h).1).1)
  exact ⟨g, cap, rfl, o, h3⟩

set_option maxRecDepth 100000 in
set_option maxHeartbeats 8000000 in
theorem hlNext_bad (s : List (List Um.Tm)) (v0 : Value) (p : List (Int × Int)) (v1 : Value) (b : List (Int × Int)) (v : Value) (w : World) (hf : Lf w.heap.size w v0 s) (hp : Ls w.heap.size w v1 p) (hs : Ls w.heap.size w v b) (h : ¬ (Um.ofAll s p b).2 = 0) :
    Calls Tryd.prog 40 #[.agg #[v0, v1], v] w fun e w' => ∃ r, e = .returned (.tuple #[r, .bool (Um.isB s p b), errV (Um.ofAll s p b).2]) ∧ Ls w'.heap.size w' r (Um.ofAll s p b).1 ∧ Below w.heap.size w w' := by
  have ve := errV_none
  have q1 := errG
  have q2 := errGn
  have q3 := errE
  have q4 := errN
  obtain ⟨a0, cap0, rfl, -⟩ := (id hf)
  obtain ⟨a1, cap1, rfl, -⟩ := (id hp)
  obtain ⟨a2, cap2, rfl, -⟩ := (id hs)
  have hY := SyAt.new w (.slice a0 s.length cap0) (.slice a1 p.length cap1) 25 rfl
  have hBW : Below w.heap.size w (w.alloc (.cells #[.slice a0 s.length cap0, .slice a1 p.length cap1] 25)) := by go_grown
  have y0 := hY.c0
  have y1 := hY.c1
  replace hf := hf.step hBW
  replace hp := hp.step hBW
  replace hs := hs.step hBW
  have HO := fun w hf hp hs => hid (sof_any s (.slice a0 s.length cap0) p (.slice a1 p.length cap1) b (.slice a2 b.length cap2) w hf hp hs)
  have HZ := hid (Um.ofAll_nil h)
  have HI := hid (Um.isB_not h)
  have kO : ((Um.ofAll s p b).2 != 0) = true := by simpa using h
  clear h
  generalize Um.ofAll s p b = O at *
  generalize Um.isB s p b = I at *
  go_enter Tryd.func40, Tryd.ntmps40
  go_wp2_with (go_at_call 61; refine (HO _ hf hp hs).out.mono ?_; rintro e wn ⟨r, rfl, hr, hb⟩; replace hf := hf.step hb; replace hp := hp.step hb; replace hs := hs.step hb; replace hY := hY.step hb; have hB := hBW.trans (hb.mono hBW.size); obtain ⟨a8, c8, rfl, -⟩ := (id hr); clear hb HO hBW y0 y1)
  go_returns
  rw [HI.out, HZ.out]
  exact ⟨_, rfl, Ls.nil _ _, hB⟩

set_option maxRecDepth 100000 in
set_option maxHeartbeats 8000000 in
theorem hlNext_yes (s : List (List Um.Tm)) (v0 : Value) (p : List (Int × Int)) (v1 : Value) (b : List (Int × Int)) (v : Value) (w : World) (hf : Lf w.heap.size w v0 s) (hp : Ls w.heap.size w v1 p) (hs : Ls w.heap.size w v b) (h : (Um.ofAll s p b).2 = 0) :
    Calls Tryd.prog 40 #[.agg #[v0, v1], v] w fun e w' => ∃ r, e = .returned (.tuple #[r, .bool (Um.isB s p b), errV (Um.ofAll s p b).2]) ∧ Ls w'.heap.size w' r (Um.ofAll s p b).1 ∧ Below w.heap.size w w' := by
  have ve := errV_none
  have q1 := errG
  have q2 := errGn
  have q3 := errE
  have q4 := errN
  obtain ⟨a0, cap0, rfl, -⟩ := (id hf)
  obtain ⟨a1, cap1, rfl, -⟩ := (id hp)
  obtain ⟨a2, cap2, rfl, -⟩ := (id hs)
  have hY := SyAt.new w (.slice a0 s.length cap0) (.slice a1 p.length cap1) 25 rfl
  have hBW : Below w.heap.size w (w.alloc (.cells #[.slice a0 s.length cap0, .slice a1 p.length cap1] 25)) := by go_grown
  have y0 := hY.c0
  have y1 := hY.c1
  replace hf := hf.step hBW
  replace hp := hp.step hBW
  replace hs := hs.step hBW
  have HO := fun w hf hp hs => hid (sof_any s (.slice a0 s.length cap0) p (.slice a1 p.length cap1) b (.slice a2 b.length cap2) w hf hp hs)
  have HW := fun (y : Value) w h1 h2 => hid (hold_within h y (.slice a2 b.length cap2) w h1 h2)
  have kO : ((Um.ofAll s p b).2 != 0) = false := by simpa using h
  clear h
  generalize Um.ofAll s p b = O at *
  generalize Um.isB s p b = I at *
  go_enter Tryd.func40, Tryd.ntmps40
  go_wp2_with (first | (go_at_call 61; refine (HO _ hf hp hs).out.mono ?_; rintro e wn ⟨r, rfl, hr, hb⟩; replace hf := hf.step hb; replace hp := hp.step hb; replace hs := hs.step hb; replace hY := hY.step hb; have hB := hBW.trans (hb.mono hBW.size); obtain ⟨a8, c8, rfl, -⟩ := (id hr); clear hb HO hBW y0 y1) | (go_at_call 63; refine (HW _ _ hr hs).out.mono ?_; rintro e wk ⟨rfl, hb⟩; replace hB := hB.trans (hb.mono hB.size); replace hr := hr.step hb; clear hb HW))
  go_returns
  exact ⟨_, rfl, hr, hB⟩

theorem hlNext_any (s : List (List Um.Tm)) (v0 : Value) (p : List (Int × Int)) (v1 : Value) (b : List (Int × Int)) (v : Value) (w : World) (hf : Lf w.heap.size w v0 s) (hp : Ls w.heap.size w v1 p) (hs : Ls w.heap.size w v b) :
    Calls Tryd.prog 40 #[.agg #[v0, v1], v] w fun e w' => ∃ r, e = .returned (.tuple #[r, .bool (Um.isB s p b), errV (Um.ofAll s p b).2]) ∧ Ls w'.heap.size w' r (Um.ofAll s p b).1 ∧ Below w.heap.size w w' := by
  by_cases h : (Um.ofAll s p b).2 = 0
  · exact hlNext_yes s v0 p v1 b v w hf hp hs h
  · exact hlNext_bad s v0 p v1 b v w hf hp hs h

set_option maxRecDepth 100000 in
set_option maxHeartbeats 8000000 in
theorem hlIs_any (s : List (List Um.Tm)) (v0 : Value) (p : List (Int × Int)) (v1 : Value) (b : List (Int × Int)) (v : Value) (w : World) (hf : Lf w.heap.size w v0 s) (hp : Ls w.heap.size w v1 p) (hs : Ls w.heap.size w v b) :
    Calls Tryd.prog 19 #[.agg #[v0, v1], v] w fun e w' => e = .returned (.tuple #[.bool (Um.isB s p b), errV (Um.ofAll s p b).2]) ∧ Below w.heap.size w w' := by
  have ve := errV_none
  have q1 := errG
  have q2 := errGn
  have q3 := errE
  have q4 := errN
  obtain ⟨a0, cap0, rfl, -⟩ := (id hf)
  obtain ⟨a1, cap1, rfl, -⟩ := (id hp)
  obtain ⟨a2, cap2, rfl, -⟩ := (id hs)
  have hY := SyAt.new w (.slice a0 s.length cap0) (.slice a1 p.length cap1) 25 rfl
  have hBW : Below w.heap.size w (w.alloc (.cells #[.slice a0 s.length cap0, .slice a1 p.length cap1] 25)) := by go_grown
  have y0 := hY.c0
  have y1 := hY.c1
  replace hf := hf.step hBW
  replace hp := hp.step hBW
  replace hs := hs.step hBW
  have HN := fun w hf hp hs => hid (hlNext_any s (.slice a0 s.length cap0) p (.slice a1 p.length cap1) b (.slice a2 b.length cap2) w hf hp hs)
  generalize Um.ofAll s p b = O at *
  generalize Um.isB s p b = I at *
  go_enter Tryd.func19, Tryd.ntmps19
  go_wp2_with (go_at_call 40; refine (HN _ hf hp hs).out.mono ?_; rintro e wn ⟨r, rfl, hr, hb⟩; have hB := hBW.trans (hb.mono hBW.size); obtain ⟨a8, c8, rfl, -⟩ := (id hr); clear hb HN)
  go_returns
  exact ⟨rfl, hB⟩

set_option maxRecDepth 100000 in
set_option maxHeartbeats 16000000 in
theorem hlGrown_any (c d : List (Int × Int)) (u v : Value) (y : Int) (w : World) (hs1 : Ls w.heap.size w u c) (hs2 : Ls w.heap.size w v d) (h : Um.boxesF c d = 0) (h0 : 0 ≤ y) (h9 : y ≤ 1000000000) :
    Calls Tryd.prog 64 #[u, v, .int .i64 y] w fun e w' => ∃ r, e = .returned (.tuple #[r, errV (Um.grownR (Um.hullN c d c.length) y).2]) ∧ Ls w'.heap.size w' r (Um.grownR (Um.hullN c d c.length) y).1 ∧ Below w.heap.size w w' := by
  have ve := errV_none
  have q1 := errG
  have q2 := errGn
  have q3 := errE
  have q4 := errN
  obtain ⟨a0, cap0, rfl, -⟩ := (id hs1)
  obtain ⟨a1, cap1, rfl, -⟩ := (id hs2)
  obtain ⟨K, hK⟩ : ∃ K : Int, K = 0 := ⟨_, rfl⟩
  have kK : (K != 0) = false := by simpa using hK
  have HH := fun w h1 h2 => hid (hold_hull h hK (.slice a0 c.length cap0) (.slice a1 d.length cap1) w h1 h2)
  have HBX := hid (Um.hull_box h).1
  clear hK h
  generalize (Um.hullN c d c.length) = H at *
  have HA := fun j (hj : j < H.length) => hid (Um.wide_add HBX.out hj h0 h9)
  have hl3 := (Um.box_len HBX.out).2
  clear HBX
  go_enter Tryd.func64, Tryd.ntmps64
  go_wp2_with (go_at_call 62; refine (HH _ hs1 hs2).out.mono ?_; rintro e wn ⟨g, cap, rfl, hO0, hB0⟩; clear HH hs1 hs2)
  have hge := hO0.ge
  have hlt := hO0.lt
  have hO1 := hO0.step ((Below.refl _ _).alloc (Nat.le_refl _) (.cells #[.int .i64 (-y), .int .i64 y] 47))
  have hS1 := Sp.new wn (-y) y
  have hB1 := hB0.alloc hB0.size (.cells #[.int .i64 (-y), .int .i64 y] 47)
  clear hO0 hB0
  go_loopw [28] (fun i wr => ∃ j : Nat, j ≤ H.length ∧ i = .int .i64 j ∧ Own wr w.heap.size g cap (Um.wideTo H y j) ∧ Hid (Um.bigN H y j = false) ∧ Sp wr wn.heap.size (-y) y ∧ Below w.heap.size w wr) (fun i _ => H.length - (intOf i).toNat)
  case atStart => exact ⟨0, Nat.zero_le _, rfl, by rw [Um.wideTo_zero]; exact hO1, rfl, hS1, hB1⟩
  case round =>
    clear hO1 hS1 hB1
    obtain ⟨j, hj, rfl, hO, hz, hS, hB⟩ := hrel
    by_cases hjl : j < H.length
    · have hjj : (j : Int) < (H.length : Int) := by omega
      have hwl : j < (Um.wideTo H y j).length := by rw [Um.wideTo_len _ _ _ hj]; exact hjl
      have y0 := hO.lo hwl
      have y1 := hO.hi hwl
      rw [Um.wideTo_at hjl] at y0 y1
      have HAD := fun w => hid (add_any (Um.sd H j).1 (Um.sd H j).2 (-y) y w)
      have HE := HA j hjl
      have HWS := fun x hx => hid (Um.wideTo_set (h := H) (y := y) (j := j) hjl x hx)
      have HGB := fun e => hid (Um.bigN_some (y := y) hjl e)
      have HBS : Hid (Um.bigN H y (j + 1) = (Um.bigN H y j || Um.bigB (Um.sd (Um.widerL H y) j))) := hid rfl
      clear HA
      generalize Um.made (Um.addR (Um.sd H j).1 (Um.sd H j).2 (-y) y) (Um.sd H j).1 (Um.sd H j).2 (-y) y = S at *
      generalize Um.sd H j = sj at *
      obtain ⟨A0, A1⟩ := sj
      simp only at y0 y1 HAD
      generalize Um.bigB (Um.sd (Um.widerL H y) j) = BB at *
      replace hO := hO.step ((Below.refl _ _).alloc (Nat.le_refl _) (.cells #[.int .i64 A0, .int .i64 A1] 47))
      have hN := Sp.new wr A0 A1
      have x0 := hN.lo
      have x1 := hN.hi
      replace hS := hS.alloc (.cells #[.int .i64 A0, .int .i64 A1] 47)
      have z0 := hS.lo
      have z1 := hS.hi
      replace hB := hB.alloc hB.size (.cells #[.int .i64 A0, .int .i64 A1] 47)
      clear hN
      cases BB with
      | true =>
        have e4 : S = (0, 0, 4) := by rw [HE.out, if_pos rfl]
        have HE4 : Hid (S.2.2 = 4) := by rw [e4]; exact hid rfl
        have kS : (S.2.2 != 0) = true := by rw [e4]; rfl
        have HG := HGB rfl
        clear e4 HE HWS HGB HBS hz
        go_wp2_with (go_at_call 91; refine (HAD _).out.mono ?_; rintro e wm ⟨rfl, hb⟩; replace hO := hO.step hb; replace hS := hS.step hb; replace hB := hB.trans (hb.mono hB.size); clear hb HAD y0 y1 z0 z1; have y1 := hO.free (j * 2); have y2 := hO.free (j * 2 + 1); have y3 := hO.lo hwl; have y4 := hO.hi hwl; have HQ := hid (hO.put j S.1 S.2.1); have HS2 := hid ((hS.other ⟨g, j * 2, none⟩ (.int .i64 S.1) (by show wn.heap.size ≠ g; omega)).other ⟨g, j * 2 + 1, none⟩ (.int .i64 S.2.1) (by show wn.heap.size ≠ g; omega)); have HB2 := hid ((hB.setCell (p := ⟨g, j * 2, none⟩) hge (.int .i64 S.1)).setCell (p := ⟨g, j * 2 + 1, none⟩) hge (.int .i64 S.2.1)); clear hO hS hB)
        go_returns
        rw [HG.out]
        refine ⟨.slice none 0 0, ?_, Ls.nil _ _, HB2.out⟩
        rw [HE4.out]
        rfl
      | false =>
        have e4 : S = (A0 - y, A1 + y, 0) := by rw [HE.out, if_neg (by decide)]
        have kS : (S.2.2 != 0) = false := by rw [e4]; rfl
        have HW := HWS (S.1, S.2.1) (by rw [e4])
        clear e4 HE HWS HGB
        go_wp2_with (go_at_call 91; refine (HAD _).out.mono ?_; rintro e wm ⟨rfl, hb⟩; replace hO := hO.step hb; replace hS := hS.step hb; replace hB := hB.trans (hb.mono hB.size); clear hb HAD y0 y1 z0 z1; have y1 := hO.free (j * 2); have y2 := hO.free (j * 2 + 1); have y3 := hO.lo hwl; have y4 := hO.hi hwl; have HQ := hid (hO.put j S.1 S.2.1); have HS2 := hid ((hS.other ⟨g, j * 2, none⟩ (.int .i64 S.1) (by show wn.heap.size ≠ g; omega)).other ⟨g, j * 2 + 1, none⟩ (.int .i64 S.2.1) (by show wn.heap.size ≠ g; omega)); have HB2 := hid ((hB.setCell (p := ⟨g, j * 2, none⟩) hge (.int .i64 S.1)).setCell (p := ⟨g, j * 2 + 1, none⟩) hge (.int .i64 S.2.1)); clear hO hS hB)
        exact ⟨⟨j + 1, by omega, by simp, by rw [← HW.out]; exact HQ.out, by rw [HBS.out, hz.out]; exact hid rfl, HS2.out, HB2.out⟩, by simp [intOf]; omega⟩
    · obtain rfl : j = H.length := by omega
      have HG := hid (Um.grown_ok hz.out)
      rw [Um.wideTo_all] at hO
      have HL := hid hO.ls
      rw [Um.wider_len] at HL
      clear hO HA hS
      go_wp2
      go_returns
      rw [HG.out]
      refine ⟨_, ?_, HL.out, hB⟩
      show _ = Ending.returned (Value.tuple #[_, errV 0])
      rw [errV_none]
      rfl

set_option maxRecDepth 100000 in
set_option maxHeartbeats 8000000 in
theorem till_none (s : List (List Um.Tm)) (v0 : Value) (p : List (Int × Int)) (v1 : Value) (b : List (Int × Int)) (v : Value) (y : Int) (w : World) (hf : Lf w.heap.size w v0 s) (hp : Ls w.heap.size w v1 p) (hs : Ls w.heap.size w v b) (h : ¬ (Um.ofAll s p b).2 = 0) :
    Calls Tryd.prog 42 #[.agg #[v0, v1], v, .int .i64 y, .int .i64 0] w fun e w' => e = .returned (.tuple #[.slice none 0 0, errV (Um.ofAll s p b).2]) ∧ Below w.heap.size w w' := by
  have ve := errV_none
  have q1 := errG
  have q2 := errGn
  have q3 := errE
  have q4 := errN
  obtain ⟨a0, cap0, rfl, -⟩ := (id hf)
  obtain ⟨a1, cap1, rfl, -⟩ := (id hp)
  obtain ⟨a2, cap2, rfl, -⟩ := (id hs)
  have hY := SyAt.new w (.slice a0 s.length cap0) (.slice a1 p.length cap1) 25 rfl
  have hBW : Below w.heap.size w (w.alloc (.cells #[.slice a0 s.length cap0, .slice a1 p.length cap1] 25)) := by go_grown
  have y0 := hY.c0
  have y1 := hY.c1
  replace hf := hf.step hBW
  replace hp := hp.step hBW
  replace hs := hs.step hBW
  have HI := fun w hf hp hs => hid (hlIs_any s (.slice a0 s.length cap0) p (.slice a1 p.length cap1) b (.slice a2 b.length cap2) w hf hp hs)
  have kO : ((Um.ofAll s p b).2 != 0) = true := by simpa using h
  clear h
  have hB := hBW
  clear hBW
  generalize Um.ofAll s p b = O at *
  generalize Um.isB s p b = I at *
  go_enter Tryd.func42, Tryd.ntmps42
  go_wp2
  refine wp_loop_rounds 1 ?_
  rw [rounds_succ]
  go_wp2_with (go_at_call 19; refine (HI _ hf hp hs).out.mono ?_; rintro e wk ⟨rfl, hb⟩; replace hf := hf.step hb; replace hp := hp.step hb; replace hs := hs.step hb; replace hY := hY.step hb; replace hB := hB.trans (hb.mono hB.size); clear hb HI y0 y1)
  go_returns
  exact ⟨rfl, hB⟩

set_option maxRecDepth 100000 in
set_option maxHeartbeats 8000000 in
theorem till_first (s : List (List Um.Tm)) (v0 : Value) (p : List (Int × Int)) (v1 : Value) (b : List (Int × Int)) (v : Value) (y n : Int) (w : World) (hf : Lf w.heap.size w v0 s) (hp : Ls w.heap.size w v1 p) (hs : Ls w.heap.size w v b) (h : ¬ (Um.ofAll s p b).2 = 0) (hn : 0 < n) :
    Calls Tryd.prog 42 #[.agg #[v0, v1], v, .int .i64 y, .int .i64 n] w fun e w' => e = .returned (.tuple #[.slice none 0 0, errV (Um.ofAll s p b).2]) ∧ Below w.heap.size w w' := by
  have ve := errV_none
  have q1 := errG
  have q2 := errGn
  have q3 := errE
  have q4 := errN
  obtain ⟨a0, cap0, rfl, -⟩ := (id hf)
  obtain ⟨a1, cap1, rfl, -⟩ := (id hp)
  obtain ⟨a2, cap2, rfl, -⟩ := (id hs)
  have hY := SyAt.new w (.slice a0 s.length cap0) (.slice a1 p.length cap1) 25 rfl
  have hBW : Below w.heap.size w (w.alloc (.cells #[.slice a0 s.length cap0, .slice a1 p.length cap1] 25)) := by go_grown
  have y0 := hY.c0
  have y1 := hY.c1
  replace hf := hf.step hBW
  replace hp := hp.step hBW
  replace hs := hs.step hBW
  have HN := fun w hf hp hs => hid (hlNext_any s (.slice a0 s.length cap0) p (.slice a1 p.length cap1) b (.slice a2 b.length cap2) w hf hp hs)
  have kO : ((Um.ofAll s p b).2 != 0) = true := by simpa using h
  have kN : decide (0 < n) = true := decide_eq_true hn
  clear h
  have hB := hBW
  clear hBW
  generalize Um.ofAll s p b = O at *
  generalize Um.isB s p b = I at *
  go_enter Tryd.func42, Tryd.ntmps42
  go_wp2
  refine wp_loop_rounds 1 ?_
  rw [rounds_succ]
  go_wp2_with (go_at_call 40; refine (HN _ hf hp hs).out.mono ?_; rintro e wn ⟨r, rfl, hr, hb⟩; replace hf := hf.step hb; replace hp := hp.step hb; replace hs := hs.step hb; replace hY := hY.step hb; replace hB := hB.trans (hb.mono hB.size); obtain ⟨a8, c8, rfl, -⟩ := (id hr); clear hb HN y0 y1)
  go_returns
  exact ⟨rfl, hB⟩

set_option maxRecDepth 100000 in
set_option maxHeartbeats 16000000 in
theorem till_yes (s : List (List Um.Tm)) (v0 : Value) (p : List (Int × Int)) (v1 : Value) (b : List (Int × Int)) (v : Value) (y : Int) (n : Nat) (w : World) (hf : Lf w.heap.size w v0 s) (hp : Ls w.heap.size w v1 p) (hs : Ls w.heap.size w v b) (h : Um.readyF s p b = 0) (h0 : 0 ≤ y) (h9 : y ≤ 1000000000) (hn : n ≤ 20) :
    Calls Tryd.prog 42 #[.agg #[v0, v1], v, .int .i64 y, .int .i64 n] w fun e w' => ∃ r, e = .returned (.tuple #[r, errV (Um.growR s p y n b).2]) ∧ Ls w'.heap.size w' r (Um.growR s p y n b).1 ∧ Below w.heap.size w w' := by
  have ve := errV_none
  have q1 := errG
  have q2 := errGn
  have q3 := errE
  have q4 := errN
  obtain ⟨a0, cap0, rfl, -⟩ := (id hf)
  obtain ⟨a1, cap1, rfl, -⟩ := (id hp)
  obtain ⟨a2, cap2, rfl, -⟩ := (id hs)
  have hY := SyAt.new w (.slice a0 s.length cap0) (.slice a1 p.length cap1) 25 rfl
  have hBW : Below w.heap.size w (w.alloc (.cells #[.slice a0 s.length cap0, .slice a1 p.length cap1] 25)) := by go_grown
  have y0 := hY.c0
  have y1 := hY.c1
  replace hf := hf.step hBW
  replace hp := hp.step hBW
  replace hs := hs.step hBW
  have HRD := hid h
  have HY0 := hid h0
  have HY9 := hid h9
  clear h y0 y1 h0 h9
  have HB0 := hid hs
  have hF := Fr.start (w.alloc (.cells #[.slice a0 s.length cap0, .slice a1 p.length cap1] 25))
  go_enter Tryd.func42, Tryd.ntmps42
  go_wp2
  clear hs
  go_loopw [10, 18] (fun u i wr => ∃ k : Nat, k ≤ n ∧ i = .int .i64 k ∧ ∃ c, Ls wr.heap.size wr u c ∧ Hid (Um.readyF s p c = 0) ∧ Hid (Um.growR s p y n b = Um.growR s p y (n - k) c) ∧ Fr (w.alloc (.cells #[.slice a0 s.length cap0, .slice a1 p.length cap1] 25)) wr []) (fun _ i _ => n - (intOf i).toNat)
  case atStart => exact ⟨0, Nat.zero_le _, rfl, b, HB0.out, HRD, rfl, hF⟩
  case round =>
    clear hF HB0 HRD
    obtain ⟨k, hk, rfl, c, hc, hrd, hgr, hF⟩ := hrel
    replace hf := hf.step hF.below
    replace hp := hp.step hF.below
    replace hY := hY.step hF.below
    have y0 := hY.c0
    have y1 := hY.c1
    obtain ⟨a3, cap3, rfl, -⟩ := (id hc)
    have HAL := hid (Um.ofAll_yes hrd.out)
    have HF1 := fun (e : ¬ (Um.behR s p c).2 = 0) => hid (Um.grow_fault (y := y) (k := n - k) e)
    have HF2 := fun e g => hid (Um.grow_is (s := s) (p := p) (c := c) (y := y) (k := n - k) e g)
    by_cases hkl : k < n
    · have hkk : (k : Int) < (n : Int) := by omega
      have HN := fun w hf hp hs => hid (hlNext_any s (.slice a0 s.length cap0) p (.slice a1 p.length cap1) c (.slice a3 c.length cap3) w hf hp hs)
      by_cases hO : (Um.behR s p c).2 = 0
      · have hI := Um.isB_yes hrd.out hO
        have kO : ((Um.ofAll s p c).2 != 0) = false := by rw [HAL.out]; simpa using hO
        by_cases hw : Um.withinB (Um.behR s p c).1 c = true
        · have HZ := HF2 hO hw
          have kI : Um.isB s p c = true := hI.trans hw
          rw [kI] at HN
          clear HF1 HF2 hO hw hI kI HAL
          generalize Um.ofAll s p c = O at *
          go_wp2_with (go_at_call 40; refine (HN _ hf hp hc).out.mono ?_; rintro e wn ⟨r, rfl, hr, hb⟩; replace hf := hf.step hb; replace hp := hp.step hb; replace hc := hc.step hb; replace hF := hF.step hb; obtain ⟨a8, c8, rfl, -⟩ := (id hr); clear hb HN y0 y1)
          go_returns
          rw [hgr.out, HZ.out]
          refine ⟨_, ?_, hc, hBW.trans (hF.below.mono hBW.size)⟩
          show _ = Ending.returned (Value.tuple #[_, errV 0])
          rw [errV_none]
          rfl
        · have kI : Um.isB s p c = false := hI.trans (Bool.eq_false_iff.2 hw)
          rw [kI] at HN
          have HX := hid (Um.grow_next (y := y) (k := n - (k + 1)) hO hw)
          rw [show n - (k + 1) + 1 = n - k by omega, ← HAL.out] at HX
          have HGD := fun e => hid (Um.grown_ready (y := y) hrd.out hO HY0.out e)
          rw [← HAL.out] at HGD
          have hbx := (Um.beh_boxes hrd.out hO).2
          rw [← HAL.out] at hbx
          have HG := fun (x : Value) w h1 h2 => hid (hlGrown_any c (Um.ofAll s p c).1 (.slice a3 c.length cap3) x y w h1 h2 hbx HY0.out HY9.out)
          have HZF := fun e => hid (Um.grown_four (h := Um.hullN c (Um.ofAll s p c).1 c.length) (y := y) e)
          clear HF1 HF2 hO hw hI kI HAL hbx
          generalize Um.grownR (Um.hullN c (Um.ofAll s p c).1 c.length) y = Z at *
          generalize Um.ofAll s p c = O at *
          by_cases hZ : Z.2 = 0
          · have kZ : (Z.2 != 0) = false := by simpa using hZ
            have HR := HGD hZ
            rw [if_pos hZ] at HX
            clear hZ HGD HZF
            go_wp2_with (first | (go_at_call 40; refine (HN _ hf hp hc).out.mono ?_; rintro e wn ⟨r, rfl, hr, hb⟩; replace hf := hf.step hb; replace hp := hp.step hb; replace hc := hc.step hb; replace hF := hF.step hb; obtain ⟨a8, c8, rfl, -⟩ := (id hr); clear hb HN y0 y1) | (go_at_call 64; refine (HG _ _ hc hr).out.mono ?_; rintro e wk ⟨r2, rfl, hr2, hb⟩; replace hF := hF.step hb; obtain ⟨a9, c9, rfl, -⟩ := (id hr2); clear hb HG))
            exact ⟨⟨k + 1, by omega, by simp, Z.1, hr2, HR, hid (by rw [hgr.out, HX.out]), hF⟩, by simp [intOf]; omega⟩
          · have kZ : (Z.2 != 0) = true := by simpa using hZ
            have HZ4 := HZF hZ
            rw [if_neg hZ] at HX
            clear hZ HGD HZF
            go_wp2_with (first | (go_at_call 40; refine (HN _ hf hp hc).out.mono ?_; rintro e wn ⟨r, rfl, hr, hb⟩; replace hf := hf.step hb; replace hp := hp.step hb; replace hc := hc.step hb; replace hF := hF.step hb; obtain ⟨a8, c8, rfl, -⟩ := (id hr); clear hb HN y0 y1) | (go_at_call 64; refine (HG _ _ hc hr).out.mono ?_; rintro e wk ⟨r2, rfl, hr2, hb⟩; replace hF := hF.step hb; obtain ⟨a9, c9, rfl, -⟩ := (id hr2); clear hb HG))
            go_returns
            rw [hgr.out, HX.out]
            refine ⟨.slice none 0 0, ?_, Ls.nil _ _, hBW.trans (hF.below.mono hBW.size)⟩
            rw [HZ4.out]
            rfl
      · have HZ := HF1 hO
        have HO4 : Hid ((Um.ofAll s p c).2 = 4) := by rw [HAL.out, Um.beh_four hO]; exact hid rfl
        have kO : ((Um.ofAll s p c).2 != 0) = true := by rw [HAL.out]; simpa using hO
        clear HF1 HF2 hO HAL
        generalize Um.ofAll s p c = O at *
        generalize Um.isB s p c = I at *
        go_wp2_with (go_at_call 40; refine (HN _ hf hp hc).out.mono ?_; rintro e wn ⟨r, rfl, hr, hb⟩; replace hf := hf.step hb; replace hp := hp.step hb; replace hc := hc.step hb; replace hF := hF.step hb; obtain ⟨a8, c8, rfl, -⟩ := (id hr); clear hb HN y0 y1)
        go_returns
        rw [hgr.out, HZ.out]
        refine ⟨.slice none 0 0, ?_, Ls.nil _ _, hBW.trans (hF.below.mono hBW.size)⟩
        rw [HO4.out]
        rfl
    · obtain rfl : k = n := by omega
      rw [Nat.sub_self] at hgr HF1 HF2
      have HI := fun w hf hp hs => hid (hlIs_any s (.slice a0 s.length cap0) p (.slice a1 p.length cap1) c (.slice a3 c.length cap3) w hf hp hs)
      by_cases hO : (Um.behR s p c).2 = 0
      · have hI := Um.isB_yes hrd.out hO
        have kO : ((Um.ofAll s p c).2 != 0) = false := by rw [HAL.out]; simpa using hO
        by_cases hw : Um.withinB (Um.behR s p c).1 c = true
        · have HZ := HF2 hO hw
          have kI : Um.isB s p c = true := hI.trans hw
          rw [kI] at HI
          clear HF1 HF2 hO hw hI kI HAL
          generalize Um.ofAll s p c = O at *
          go_wp2_with (go_at_call 19; refine (HI _ hf hp hc).out.mono ?_; rintro e wk ⟨rfl, hb⟩; replace hf := hf.step hb; replace hp := hp.step hb; replace hc := hc.step hb; replace hF := hF.step hb; clear hb HI y0 y1)
          go_returns
          rw [hgr.out, HZ.out]
          refine ⟨_, ?_, hc, hBW.trans (hF.below.mono hBW.size)⟩
          show _ = Ending.returned (Value.tuple #[_, errV 0])
          rw [errV_none]
          rfl
        · have kI : Um.isB s p c = false := hI.trans (Bool.eq_false_iff.2 hw)
          have HZ := hid (Um.grow_end (y := y) hO hw)
          rw [kI] at HI
          clear HF1 HF2 hO hw hI kI HAL
          generalize Um.ofAll s p c = O at *
          go_wp2_with (go_at_call 19; refine (HI _ hf hp hc).out.mono ?_; rintro e wk ⟨rfl, hb⟩; replace hf := hf.step hb; replace hp := hp.step hb; replace hc := hc.step hb; replace hF := hF.step hb; clear hb HI y0 y1)
          go_returns
          rw [hgr.out, HZ.out]
          exact ⟨_, rfl, Ls.nil _ _, hBW.trans (hF.below.mono hBW.size)⟩
      · have HZ := HF1 hO
        have HO4 : Hid ((Um.ofAll s p c).2 = 4) := by rw [HAL.out, Um.beh_four hO]; exact hid rfl
        have kO : ((Um.ofAll s p c).2 != 0) = true := by rw [HAL.out]; simpa using hO
        clear HF1 HF2 hO HAL
        generalize Um.ofAll s p c = O at *
        generalize Um.isB s p c = I at *
        go_wp2_with (go_at_call 19; refine (HI _ hf hp hc).out.mono ?_; rintro e wk ⟨rfl, hb⟩; replace hf := hf.step hb; replace hp := hp.step hb; replace hc := hc.step hb; replace hF := hF.step hb; clear hb HI y0 y1)
        go_returns
        rw [hgr.out, HZ.out]
        refine ⟨.slice none 0 0, ?_, Ls.nil _ _, hBW.trans (hF.below.mono hBW.size)⟩
        rw [HO4.out]
        rfl

theorem till_any (s : List (List Um.Tm)) (v0 : Value) (p : List (Int × Int)) (v1 : Value) (b : List (Int × Int)) (v : Value) (y n : Int) (w : World) (hf : Lf w.heap.size w v0 s) (hp : Ls w.heap.size w v1 p) (hs : Ls w.heap.size w v b) (h : 0 ≤ y ∧ y ≤ 1000000000 ∧ 0 ≤ n ∧ n ≤ 20) :
    Calls Tryd.prog 42 #[.agg #[v0, v1], v, .int .i64 y, .int .i64 n] w fun e w' => ∃ r, e = .returned (.tuple #[r, errV (Um.growAll s p b y n).2]) ∧ Ls w'.heap.size w' r (Um.growAll s p b y n).1 ∧ Below w.heap.size w w' := by
  by_cases h2 : Um.readyF s p b = 0
  · obtain ⟨k, rfl⟩ : ∃ k : Nat, n = k := ⟨n.toNat, by omega⟩
    have e : Um.growAll s p b y k = Um.growR s p y k b := by
      unfold Um.growAll
      rw [if_pos (Um.growF_ok.2 ⟨h, h2⟩), Int.toNat_natCast]
    rw [e]
    exact till_yes s v0 p v1 b v y k w hf hp hs h2 h.1 h.2.1 (by omega)
  · have e := Um.ofAll_not h2
    have h3 : ¬ (Um.ofAll s p b).2 = 0 := by rw [e]; exact h2
    have e2 : Um.growAll s p b y n = ([], (Um.ofAll s p b).2) := by
      have g : Um.growF s p b y n = Um.readyF s p b := by unfold Um.growF; rw [if_pos h]
      unfold Um.growAll
      rw [g, if_neg h2, e]
    rw [e2]
    have hm : ∀ {e : Ending} {w' : World}, (e = .returned (.tuple #[.slice none 0 0, errV (Um.ofAll s p b).2]) ∧ Below w.heap.size w w') → ∃ r, e = .returned (.tuple #[r, errV (([] : List (Int × Int)), (Um.ofAll s p b).2).2]) ∧ Ls w'.heap.size w' r (([] : List (Int × Int)), (Um.ofAll s p b).2).1 ∧ Below w.heap.size w w' := fun ⟨e, hb⟩ => ⟨_, e, Ls.nil _ _, hb⟩
    by_cases h4 : n = 0
    · subst h4
      exact (till_none s v0 p v1 b v y w hf hp hs h3).mono fun e w' g => hm g
    · exact (till_first s v0 p v1 b v y n w hf hp hs h3 (by omega)).mono fun e w' g => hm g

set_option maxRecDepth 100000 in
set_option maxHeartbeats 8000000 in
theorem grow_y0 (s : List (List Um.Tm)) (v0 : Value) (p : List (Int × Int)) (v1 : Value) (b : List (Int × Int)) (v : Value) (y n : Int) (w : World) (hf : Lf w.heap.size w v0 s) (hp : Ls w.heap.size w v1 p) (hs : Ls w.heap.size w v b) (h : y < 0) :
    Calls Tryd.prog 21 #[.agg #[v0, v1], v, .int .i64 y, .int .i64 n] w fun e w' => ∃ r, e = .returned (.tuple #[r, errV (Um.growAll s p b y n).2]) ∧ Ls w'.heap.size w' r (Um.growAll s p b y n).1 ∧ Below w.heap.size w w' := by
  have ve := errV_none
  have q1 := errG
  have q2 := errGn
  have q3 := errE
  have q4 := errN
  obtain ⟨a0, cap0, rfl, -⟩ := (id hf)
  obtain ⟨a1, cap1, rfl, -⟩ := (id hp)
  obtain ⟨a2, cap2, rfl, -⟩ := (id hs)
  have hY := SyAt.new w (.slice a0 s.length cap0) (.slice a1 p.length cap1) 25 rfl
  have hBW : Below w.heap.size w (w.alloc (.cells #[.slice a0 s.length cap0, .slice a1 p.length cap1] 25)) := by go_grown
  have y0 := hY.c0
  have y1 := hY.c1
  replace hf := hf.step hBW
  replace hp := hp.step hBW
  replace hs := hs.step hBW
  have HM : Hid (Um.growAll s p b y n = ([], 1)) := by
    have e : Um.growF s p b y n = 1 := by unfold Um.growF; rw [if_neg (by omega)]
    unfold Um.growAll
    rw [e, if_neg (by decide)]
    exact hid rfl
  have k1 : decide (y < 0) = true := decide_eq_true h
  clear h
  go_enter Tryd.func21, Tryd.ntmps21
  go_wp2
  go_returns
  rw [HM.out]
  exact ⟨_, rfl, Ls.nil _ _, hBW⟩

set_option maxRecDepth 100000 in
set_option maxHeartbeats 8000000 in
theorem grow_y9 (s : List (List Um.Tm)) (v0 : Value) (p : List (Int × Int)) (v1 : Value) (b : List (Int × Int)) (v : Value) (y n : Int) (w : World) (hf : Lf w.heap.size w v0 s) (hp : Ls w.heap.size w v1 p) (hs : Ls w.heap.size w v b) (h : ¬ y < 0) (h2 : 1000000000 < y) :
    Calls Tryd.prog 21 #[.agg #[v0, v1], v, .int .i64 y, .int .i64 n] w fun e w' => ∃ r, e = .returned (.tuple #[r, errV (Um.growAll s p b y n).2]) ∧ Ls w'.heap.size w' r (Um.growAll s p b y n).1 ∧ Below w.heap.size w w' := by
  have ve := errV_none
  have q1 := errG
  have q2 := errGn
  have q3 := errE
  have q4 := errN
  obtain ⟨a0, cap0, rfl, -⟩ := (id hf)
  obtain ⟨a1, cap1, rfl, -⟩ := (id hp)
  obtain ⟨a2, cap2, rfl, -⟩ := (id hs)
  have hY := SyAt.new w (.slice a0 s.length cap0) (.slice a1 p.length cap1) 25 rfl
  have hBW : Below w.heap.size w (w.alloc (.cells #[.slice a0 s.length cap0, .slice a1 p.length cap1] 25)) := by go_grown
  have y0 := hY.c0
  have y1 := hY.c1
  replace hf := hf.step hBW
  replace hp := hp.step hBW
  replace hs := hs.step hBW
  have HM : Hid (Um.growAll s p b y n = ([], 1)) := by
    have e : Um.growF s p b y n = 1 := by unfold Um.growF; rw [if_neg (by omega)]
    unfold Um.growAll
    rw [e, if_neg (by decide)]
    exact hid rfl
  have k1 : decide (y < 0) = false := decide_eq_false h
  have k2 : decide (1000000000 < y) = true := decide_eq_true h2
  clear h h2
  go_enter Tryd.func21, Tryd.ntmps21
  go_wp2
  go_returns
  rw [HM.out]
  exact ⟨_, rfl, Ls.nil _ _, hBW⟩

set_option maxRecDepth 100000 in
set_option maxHeartbeats 8000000 in
theorem grow_n0 (s : List (List Um.Tm)) (v0 : Value) (p : List (Int × Int)) (v1 : Value) (b : List (Int × Int)) (v : Value) (y n : Int) (w : World) (hf : Lf w.heap.size w v0 s) (hp : Ls w.heap.size w v1 p) (hs : Ls w.heap.size w v b) (h : ¬ y < 0) (h2 : ¬ 1000000000 < y) (h3 : n < 0) :
    Calls Tryd.prog 21 #[.agg #[v0, v1], v, .int .i64 y, .int .i64 n] w fun e w' => ∃ r, e = .returned (.tuple #[r, errV (Um.growAll s p b y n).2]) ∧ Ls w'.heap.size w' r (Um.growAll s p b y n).1 ∧ Below w.heap.size w w' := by
  have ve := errV_none
  have q1 := errG
  have q2 := errGn
  have q3 := errE
  have q4 := errN
  obtain ⟨a0, cap0, rfl, -⟩ := (id hf)
  obtain ⟨a1, cap1, rfl, -⟩ := (id hp)
  obtain ⟨a2, cap2, rfl, -⟩ := (id hs)
  have hY := SyAt.new w (.slice a0 s.length cap0) (.slice a1 p.length cap1) 25 rfl
  have hBW : Below w.heap.size w (w.alloc (.cells #[.slice a0 s.length cap0, .slice a1 p.length cap1] 25)) := by go_grown
  have y0 := hY.c0
  have y1 := hY.c1
  replace hf := hf.step hBW
  replace hp := hp.step hBW
  replace hs := hs.step hBW
  have HM : Hid (Um.growAll s p b y n = ([], 1)) := by
    have e : Um.growF s p b y n = 1 := by unfold Um.growF; rw [if_neg (by omega)]
    unfold Um.growAll
    rw [e, if_neg (by decide)]
    exact hid rfl
  have k1 : decide (y < 0) = false := decide_eq_false h
  have k2 : decide (1000000000 < y) = false := decide_eq_false h2
  have k3 : decide (n < 0) = true := decide_eq_true h3
  clear h h2 h3
  go_enter Tryd.func21, Tryd.ntmps21
  go_wp2
  go_returns
  rw [HM.out]
  exact ⟨_, rfl, Ls.nil _ _, hBW⟩

set_option maxRecDepth 100000 in
set_option maxHeartbeats 8000000 in
theorem grow_n9 (s : List (List Um.Tm)) (v0 : Value) (p : List (Int × Int)) (v1 : Value) (b : List (Int × Int)) (v : Value) (y n : Int) (w : World) (hf : Lf w.heap.size w v0 s) (hp : Ls w.heap.size w v1 p) (hs : Ls w.heap.size w v b) (h : ¬ y < 0) (h2 : ¬ 1000000000 < y) (h3 : ¬ n < 0) (h4 : 20 < n) :
    Calls Tryd.prog 21 #[.agg #[v0, v1], v, .int .i64 y, .int .i64 n] w fun e w' => ∃ r, e = .returned (.tuple #[r, errV (Um.growAll s p b y n).2]) ∧ Ls w'.heap.size w' r (Um.growAll s p b y n).1 ∧ Below w.heap.size w w' := by
  have ve := errV_none
  have q1 := errG
  have q2 := errGn
  have q3 := errE
  have q4 := errN
  obtain ⟨a0, cap0, rfl, -⟩ := (id hf)
  obtain ⟨a1, cap1, rfl, -⟩ := (id hp)
  obtain ⟨a2, cap2, rfl, -⟩ := (id hs)
  have hY := SyAt.new w (.slice a0 s.length cap0) (.slice a1 p.length cap1) 25 rfl
  have hBW : Below w.heap.size w (w.alloc (.cells #[.slice a0 s.length cap0, .slice a1 p.length cap1] 25)) := by go_grown
  have y0 := hY.c0
  have y1 := hY.c1
  replace hf := hf.step hBW
  replace hp := hp.step hBW
  replace hs := hs.step hBW
  have HM : Hid (Um.growAll s p b y n = ([], 1)) := by
    have e : Um.growF s p b y n = 1 := by unfold Um.growF; rw [if_neg (by omega)]
    unfold Um.growAll
    rw [e, if_neg (by decide)]
    exact hid rfl
  have k1 : decide (y < 0) = false := decide_eq_false h
  have k2 : decide (1000000000 < y) = false := decide_eq_false h2
  have k3 : decide (n < 0) = false := decide_eq_false h3
  have k4 : decide (20 < n) = true := decide_eq_true h4
  clear h h2 h3 h4
  go_enter Tryd.func21, Tryd.ntmps21
  go_wp2
  go_returns
  rw [HM.out]
  exact ⟨_, rfl, Ls.nil _ _, hBW⟩

set_option maxRecDepth 100000 in
set_option maxHeartbeats 8000000 in
theorem grow_bad (s : List (List Um.Tm)) (v0 : Value) (p : List (Int × Int)) (v1 : Value) (b : List (Int × Int)) (v : Value) (y n : Int) (w : World) (hf : Lf w.heap.size w v0 s) (hp : Ls w.heap.size w v1 p) (hs : Ls w.heap.size w v b) (h : 0 ≤ y ∧ y ≤ 1000000000 ∧ 0 ≤ n ∧ n ≤ 20) (h2 : ¬ (Um.growAll s p b y n).2 = 0) :
    Calls Tryd.prog 21 #[.agg #[v0, v1], v, .int .i64 y, .int .i64 n] w fun e w' => ∃ r, e = .returned (.tuple #[r, errV (Um.growAll s p b y n).2]) ∧ Ls w'.heap.size w' r (Um.growAll s p b y n).1 ∧ Below w.heap.size w w' := by
  have ve := errV_none
  have q1 := errG
  have q2 := errGn
  have q3 := errE
  have q4 := errN
  obtain ⟨a0, cap0, rfl, -⟩ := (id hf)
  obtain ⟨a1, cap1, rfl, -⟩ := (id hp)
  obtain ⟨a2, cap2, rfl, -⟩ := (id hs)
  have hY := SyAt.new w (.slice a0 s.length cap0) (.slice a1 p.length cap1) 25 rfl
  have hBW : Below w.heap.size w (w.alloc (.cells #[.slice a0 s.length cap0, .slice a1 p.length cap1] 25)) := by go_grown
  have y0 := hY.c0
  have y1 := hY.c1
  replace hf := hf.step hBW
  replace hp := hp.step hBW
  replace hs := hs.step hBW
  have HT := fun w hf hp hs => hid (till_any s (.slice a0 s.length cap0) p (.slice a1 p.length cap1) b (.slice a2 b.length cap2) y n w hf hp hs h)
  have k1 : decide (y < 0) = false := decide_eq_false (by omega)
  have k2 : decide (1000000000 < y) = false := decide_eq_false (by omega)
  have k3 : decide (n < 0) = false := decide_eq_false (by omega)
  have k4 : decide (20 < n) = false := decide_eq_false (by omega)
  clear h
  have HZ := hid (Um.growAll_nil h2)
  have kG : ((Um.growAll s p b y n).2 != 0) = true := by simpa using h2
  clear h2
  generalize Um.growAll s p b y n = G at *
  go_enter Tryd.func21, Tryd.ntmps21
  go_wp2_with (go_at_call 42; refine (HT _ hf hp hs).out.mono ?_; rintro e wn ⟨r, rfl, hr, hb⟩; have hB := hBW.trans (hb.mono hBW.size); obtain ⟨a8, c8, rfl, -⟩ := (id hr); clear hb HT y0 y1)
  go_returns
  rw [HZ.out]
  exact ⟨_, rfl, Ls.nil _ _, hB⟩

set_option maxRecDepth 100000 in
set_option maxHeartbeats 8000000 in
theorem grow_good (s : List (List Um.Tm)) (v0 : Value) (p : List (Int × Int)) (v1 : Value) (b : List (Int × Int)) (v : Value) (y n : Int) (w : World) (hf : Lf w.heap.size w v0 s) (hp : Ls w.heap.size w v1 p) (hs : Ls w.heap.size w v b) (h : 0 ≤ y ∧ y ≤ 1000000000 ∧ 0 ≤ n ∧ n ≤ 20) (h2 : (Um.growAll s p b y n).2 = 0) :
    Calls Tryd.prog 21 #[.agg #[v0, v1], v, .int .i64 y, .int .i64 n] w fun e w' => ∃ r, e = .returned (.tuple #[r, errV (Um.growAll s p b y n).2]) ∧ Ls w'.heap.size w' r (Um.growAll s p b y n).1 ∧ Below w.heap.size w w' := by
  have ve := errV_none
  have q1 := errG
  have q2 := errGn
  have q3 := errE
  have q4 := errN
  obtain ⟨a0, cap0, rfl, -⟩ := (id hf)
  obtain ⟨a1, cap1, rfl, -⟩ := (id hp)
  obtain ⟨a2, cap2, rfl, -⟩ := (id hs)
  have hY := SyAt.new w (.slice a0 s.length cap0) (.slice a1 p.length cap1) 25 rfl
  have hBW : Below w.heap.size w (w.alloc (.cells #[.slice a0 s.length cap0, .slice a1 p.length cap1] 25)) := by go_grown
  have y0 := hY.c0
  have y1 := hY.c1
  replace hf := hf.step hBW
  replace hp := hp.step hBW
  replace hs := hs.step hBW
  have hln := Um.growAll_len h2
  have HK := fun (x : Value) w hs => hid (clone_any (Um.growAll s p b y n).1 x w hs hln.1 hln.2)
  have HT := fun w hf hp hs => hid (till_any s (.slice a0 s.length cap0) p (.slice a1 p.length cap1) b (.slice a2 b.length cap2) y n w hf hp hs h)
  have k1 : decide (y < 0) = false := decide_eq_false (by omega)
  have k2 : decide (1000000000 < y) = false := decide_eq_false (by omega)
  have k3 : decide (n < 0) = false := decide_eq_false (by omega)
  have k4 : decide (20 < n) = false := decide_eq_false (by omega)
  clear h
  have HZ := hid h2
  have kG : ((Um.growAll s p b y n).2 != 0) = false := by simpa using h2
  clear h2 hln
  generalize Um.growAll s p b y n = G at *
  go_enter Tryd.func21, Tryd.ntmps21
  go_wp2_with (first | (go_at_call 42; refine (HT _ hf hp hs).out.mono ?_; rintro e wn ⟨r, rfl, hr, hb⟩; have hB := hBW.trans (hb.mono hBW.size); obtain ⟨a8, c8, rfl, -⟩ := (id hr); clear hb HT y0 y1) | (go_at_call 31; refine (HK _ _ hr).out.mono ?_; rintro e wm ⟨⟨g, cg, rfl, hO⟩, hb⟩; replace hB := hB.trans (hb.mono hB.size); replace hO := hO.ls; clear hb HK hr))
  go_returns
  refine ⟨_, ?_, hO, hB⟩
  rw [HZ.out, errV_none]
  rfl

theorem hlGrow_any (s : List (List Um.Tm)) (v0 : Value) (p : List (Int × Int)) (v1 : Value) (b : List (Int × Int)) (v : Value) (y n : Int) (w : World) (hf : Lf w.heap.size w v0 s) (hp : Ls w.heap.size w v1 p) (hs : Ls w.heap.size w v b) :
    Calls Tryd.prog 21 #[.agg #[v0, v1], v, .int .i64 y, .int .i64 n] w fun e w' => ∃ r, e = .returned (.tuple #[r, errV (Um.growAll s p b y n).2]) ∧ Ls w'.heap.size w' r (Um.growAll s p b y n).1 ∧ Below w.heap.size w w' := by
  by_cases h1 : y < 0
  · exact grow_y0 s v0 p v1 b v y n w hf hp hs h1
  by_cases h2 : 1000000000 < y
  · exact grow_y9 s v0 p v1 b v y n w hf hp hs h1 h2
  by_cases h3 : n < 0
  · exact grow_n0 s v0 p v1 b v y n w hf hp hs h1 h2 h3
  by_cases h4 : 20 < n
  · exact grow_n9 s v0 p v1 b v y n w hf hp hs h1 h2 h3 h4
  have h : 0 ≤ y ∧ y ≤ 1000000000 ∧ 0 ≤ n ∧ n ≤ 20 := by omega
  by_cases h5 : (Um.growAll s p b y n).2 = 0
  · exact grow_good s v0 p v1 b v y n w hf hp hs h h5
  · exact grow_bad s v0 p v1 b v y n w hf hp hs h h5
end Go.Proofs.YtkeoafbkbblnaaaDoor
