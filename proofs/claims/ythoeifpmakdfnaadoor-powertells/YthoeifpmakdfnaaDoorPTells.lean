/-
  The walk over 'spanlaw1.PowerTells': for all a, n it returns true.
-/
import Derived.Test.YthoeifpmakdfnaaDoorPowerOf
import Derived.Test.YthoeifpmakdfnaaDoorRefOne
import Derived.Test.YthoeifpmakdfnaaDoorRefPow
import Derived.Test.YthoeifpmakdfnaaDoorMems
import Derived.Test.YthoeifpmakdfnaaDoorSame
import Derived.Deep.DeepCutAuto
namespace Go.Proofs.YthoeifpmakdfnaaDoor.PTells
set_option linter.unusedSimpArgs false
open Go.RowKit

/-- What is carried along the law: the span in its block; what is wanted in its own; nothing that was there has turned. -/
structure Pt (w wr : World) (lo hi : Int) (P : Nat) (x y : Int) : Prop where
  below : Below w.heap.size w wr
  err : HasErr wr
  g : 0 < w.heap.size
  a : Sp wr w.heap.size lo hi
  p : Sp wr P x y
  lt : w.heap.size < P
theorem Pt.step {w wr w' : World} {lo hi : Int} {P : Nat} {x y : Int} (h : Pt w wr lo hi P x y) (hb : Below wr.heap.size wr w') : Pt w w' lo hi P x y :=
  ⟨h.below.trans (hb.mono h.below.size), h.err.below hb h.err.size, h.g, h.a.step hb, h.p.step hb, h.lt⟩
theorem Pt.alloc {w wr : World} {lo hi : Int} {P : Nat} {x y : Int} (h : Pt w wr lo hi P x y) (o : Obj) : Pt w (wr.alloc o) lo hi P x y :=
  h.step ((Below.refl _ _).alloc (Nat.le_refl _) o)
theorem Pt.put {w wr : World} {lo hi : Int} {P : Nat} {x y : Int} (h : Pt w wr lo hi P x y) (x' y' : Int) : Pt w ((wr.setCell ⟨P, 0, none⟩ (.int .i64 x')).setCell ⟨P, 1, none⟩ (.int .i64 y')) lo hi P x' y' := by
  have hl := h.lt
  have hb : Below w.heap.size w ((wr.setCell ⟨P, 0, none⟩ (.int .i64 x')).setCell ⟨P, 1, none⟩ (.int .i64 y')) := (h.below.setCell (by simp only []; omega) _).setCell (by simp only []; omega) _
  have hc : Below w.heap.size wr ((wr.setCell ⟨P, 0, none⟩ (.int .i64 x')).setCell ⟨P, 1, none⟩ (.int .i64 y')) := ((Below.refl _ _).setCell (by simp only []; omega) _).setCell (by simp only []; omega) _
  exact ⟨hb, h.err.below hc h.g, h.g, (h.a.other _ _ (by simp only []; omega)).other _ _ (by simp only []; omega), h.p.set x' y', hl⟩
theorem Pt.start {w : World} (hg : HasErr w) (lo hi : Int) : Pt w ((((w.alloc (.cells #[.int .i64 lo, .int .i64 hi] 24)).alloc (.cells #[.int .i64 lo, .int .i64 hi] 24)).alloc (.cells #[.int .i64 lo, .int .i64 hi] 24)).alloc (.cells #[.int .i64 0, .int .i64 0] 24)) lo hi (w.heap.size + 3) 0 0 := by
  refine ⟨by go_grown, hg.below (B := w.heap.size) (by go_grown) hg.size, hg.size, (((Sp.new w lo hi).alloc _).alloc _).alloc _, ?_, by omega⟩
  simpa only [World.size_alloc] using Sp.new (((w.alloc (.cells #[.int .i64 lo, .int .i64 hi] 24)).alloc (.cells #[.int .i64 lo, .int .i64 hi] 24)).alloc (.cells #[.int .i64 lo, .int .i64 hi] 24)) 0 0

set_option maxRecDepth 100000 in
set_option maxHeartbeats 4000000 in
theorem walk_wrong (lo hi n : Int) (w : World) (hg : HasErr w) (h : ¬ Um.chk lo hi = 0) :
    Calls Tryd.prog 6 #[.agg #[.int .i64 lo, .int .i64 hi], .int .i64 n] w fun e w' => e = .returned (.bool true) ∧ Below w.heap.size w w' := by
  have HO := fun w => hid (of_any lo hi n w)
  have e1 : Um.ofR lo hi n = (0, 0, Um.chk lo hi) := by unfold Um.ofR; rw [if_neg h]
  have e2 : midAll lo hi = (0, Um.chk lo hi) := by unfold midAll; rw [if_neg h]
  have e3 : farAll lo hi = (0, 0, Um.chk lo hi) := by unfold farAll; rw [if_neg h]
  have k1 : (Um.chk lo hi == 0) = false := by simpa using h
  rw [e1] at HO
  clear h e1
  have hS := Pt.start hg lo hi
  have z1 := hS.a.lo
  have z2 := hS.a.hi
  clear hg
  go_enter Tryd.func6, Tryd.ntmps6
  go_upto_region 4 with (go_at_call 20; refine (rSpan_any _ _ _).mono ?_; rintro e w1 ⟨rfl, rfl⟩)
  go_wp2_with (first | (go_at_call 22; refine (HO _).out.mono ?_; rintro e w2 ⟨rfl, hb⟩; replace hS := hS.step hb; clear hb z1 z2; have sX := Sp.new w2 0 0; replace hS := hS.alloc (.cells #[.int .i64 0, .int .i64 0] 24); have z1 := hS.a.lo; have z2 := hS.a.hi) | (go_at_call 13; refine (same_any _ _ _ hS.err).mono ?_; rintro e w3 ⟨rfl, hb⟩; replace sX := sX.step hb; have x1 := sX.lo; have x2 := sX.hi; clear sX; replace hS := hS.step hb; clear hb; clear z1 z2; have z1 := hS.a.lo; have z2 := hS.a.hi; have p1 := hS.p.lo; have p2 := hS.p.hi) | (go_at_call 13; refine (same_any _ _ _ hS.err).mono ?_; rintro e w4 ⟨rfl, hb⟩; replace hS := hS.step hb; clear hb; clear z1 z2; have z1 := hS.a.lo; have z2 := hS.a.hi) | (go_at_call 25; refine (farAll_any _ _ _).mono ?_; rintro e w7 ⟨rfl, hb⟩; replace hS := hS.step hb; clear hb; clear z1 z2; have z1 := hS.a.lo; have z2 := hS.a.hi) | (go_at_call 26; refine (midAll_any _ _ _).mono ?_; rintro e w8 ⟨rfl, hb⟩; replace hS := hS.step hb; clear hb; clear z1 z2; have z1 := hS.a.lo; have z2 := hS.a.hi))
  go_returns
  exact ⟨rfl, hS.below⟩

set_option maxRecDepth 100000 in
set_option maxHeartbeats 4000000 in
theorem walk_below (lo hi n : Int) (w : World) (hg : HasErr w) (h : Um.chk lo hi = 0) (hn : n < 0 ∨ 4 < n) (hn1 : n < 0) :
    Calls Tryd.prog 6 #[.agg #[.int .i64 lo, .int .i64 hi], .int .i64 n] w fun e w' => e = .returned (.bool true) ∧ Below w.heap.size w w' := by
  have e2 : midAll lo hi = (Um.midR lo hi, 0) := by unfold midAll; rw [if_pos h]
  have e3 : farAll lo hi = ((Um.farR lo hi).1, (Um.farR lo hi).2, 0) := by unfold farAll; rw [if_pos h]
  obtain ⟨m1, m2, m3⟩ := Um.chk_ok.1 h
  obtain ⟨b1, b2⟩ := (Um.may_iff lo).1 m1
  obtain ⟨b3, b4⟩ := (Um.may_iff hi).1 m2
  have HF := fun w => hid (rFar_any lo hi w b1 b2 b3 b4 m3)
  have HM := fun w => hid (rMiddle_any lo hi w b1 b2 b3 b4)
  have HO := fun w => hid (of_any lo hi n w)
  have e1 : Um.ofR lo hi n = (0, 0, 1) := by unfold Um.ofR; rw [if_pos h, if_pos hn]
  rw [e1] at HO
  have t1 : decide (n < 0) = true := by simpa using hn1
  clear e1 hn
  have hS := Pt.start hg lo hi
  have z1 := hS.a.lo
  have z2 := hS.a.hi
  clear hg
  go_enter Tryd.func6, Tryd.ntmps6
  go_upto_region 4 with (go_at_call 20; refine (rSpan_any _ _ _).mono ?_; rintro e w1 ⟨rfl, rfl⟩)
  go_wp2_with (first | (go_at_call 22; refine (HO _).out.mono ?_; rintro e w2 ⟨rfl, hb⟩; replace hS := hS.step hb; clear hb z1 z2; have sX := Sp.new w2 0 0; replace hS := hS.alloc (.cells #[.int .i64 0, .int .i64 0] 24); have z1 := hS.a.lo; have z2 := hS.a.hi) | (go_at_call 13; refine (same_any _ _ _ hS.err).mono ?_; rintro e w3 ⟨rfl, hb⟩; replace sX := sX.step hb; have x1 := sX.lo; have x2 := sX.hi; clear sX; replace hS := hS.step hb; clear hb; clear z1 z2; have z1 := hS.a.lo; have z2 := hS.a.hi; have p1 := hS.p.lo; have p2 := hS.p.hi) | (go_at_call 13; refine (same_any _ _ _ hS.err).mono ?_; rintro e w4 ⟨rfl, hb⟩; replace hS := hS.step hb; clear hb; clear z1 z2; have z1 := hS.a.lo; have z2 := hS.a.hi) | (go_at_call 23; refine (HF _).out.mono ?_; rintro e w5 ⟨rfl, rfl⟩; replace hS := (hS.alloc (.cells #[.int .i64 lo, .int .i64 hi] 24)).alloc (.cells #[.int .i64 lo, .int .i64 hi] 24); clear z1 z2; have z1 := hS.a.lo; have z2 := hS.a.hi) | (go_at_call 24; refine (HM _).out.mono ?_; rintro e w6 ⟨rfl, rfl⟩; replace hS := hS.alloc (.cells #[.int .i64 lo, .int .i64 hi] 24); clear z1 z2; have z1 := hS.a.lo; have z2 := hS.a.hi) | (go_at_call 25; refine (farAll_any _ _ _).mono ?_; rintro e w7 ⟨rfl, hb⟩; replace hS := hS.step hb; clear hb; clear z1 z2; have z1 := hS.a.lo; have z2 := hS.a.hi) | (go_at_call 26; refine (midAll_any _ _ _).mono ?_; rintro e w8 ⟨rfl, hb⟩; replace hS := hS.step hb; clear hb; clear z1 z2; have z1 := hS.a.lo; have z2 := hS.a.hi))
  go_returns
  exact ⟨rfl, hS.below⟩

set_option maxRecDepth 100000 in
set_option maxHeartbeats 4000000 in
theorem walk_above (lo hi n : Int) (w : World) (hg : HasErr w) (h : Um.chk lo hi = 0) (hn : n < 0 ∨ 4 < n) (hn1 : ¬ n < 0) :
    Calls Tryd.prog 6 #[.agg #[.int .i64 lo, .int .i64 hi], .int .i64 n] w fun e w' => e = .returned (.bool true) ∧ Below w.heap.size w w' := by
  have e2 : midAll lo hi = (Um.midR lo hi, 0) := by unfold midAll; rw [if_pos h]
  have e3 : farAll lo hi = ((Um.farR lo hi).1, (Um.farR lo hi).2, 0) := by unfold farAll; rw [if_pos h]
  obtain ⟨m1, m2, m3⟩ := Um.chk_ok.1 h
  obtain ⟨b1, b2⟩ := (Um.may_iff lo).1 m1
  obtain ⟨b3, b4⟩ := (Um.may_iff hi).1 m2
  have HF := fun w => hid (rFar_any lo hi w b1 b2 b3 b4 m3)
  have HM := fun w => hid (rMiddle_any lo hi w b1 b2 b3 b4)
  have HO := fun w => hid (of_any lo hi n w)
  have e1 : Um.ofR lo hi n = (0, 0, 1) := by unfold Um.ofR; rw [if_pos h, if_pos hn]
  rw [e1] at HO
  have t1 : decide (n < 0) = false := by simpa using hn1
  have t2 : decide (4 < n) = true := by simp; omega
  clear e1 hn
  have hS := Pt.start hg lo hi
  have z1 := hS.a.lo
  have z2 := hS.a.hi
  clear hg
  go_enter Tryd.func6, Tryd.ntmps6
  go_upto_region 4 with (go_at_call 20; refine (rSpan_any _ _ _).mono ?_; rintro e w1 ⟨rfl, rfl⟩)
  go_wp2_with (first | (go_at_call 22; refine (HO _).out.mono ?_; rintro e w2 ⟨rfl, hb⟩; replace hS := hS.step hb; clear hb z1 z2; have sX := Sp.new w2 0 0; replace hS := hS.alloc (.cells #[.int .i64 0, .int .i64 0] 24); have z1 := hS.a.lo; have z2 := hS.a.hi) | (go_at_call 13; refine (same_any _ _ _ hS.err).mono ?_; rintro e w3 ⟨rfl, hb⟩; replace sX := sX.step hb; have x1 := sX.lo; have x2 := sX.hi; clear sX; replace hS := hS.step hb; clear hb; clear z1 z2; have z1 := hS.a.lo; have z2 := hS.a.hi; have p1 := hS.p.lo; have p2 := hS.p.hi) | (go_at_call 13; refine (same_any _ _ _ hS.err).mono ?_; rintro e w4 ⟨rfl, hb⟩; replace hS := hS.step hb; clear hb; clear z1 z2; have z1 := hS.a.lo; have z2 := hS.a.hi) | (go_at_call 23; refine (HF _).out.mono ?_; rintro e w5 ⟨rfl, rfl⟩; replace hS := (hS.alloc (.cells #[.int .i64 lo, .int .i64 hi] 24)).alloc (.cells #[.int .i64 lo, .int .i64 hi] 24); clear z1 z2; have z1 := hS.a.lo; have z2 := hS.a.hi) | (go_at_call 24; refine (HM _).out.mono ?_; rintro e w6 ⟨rfl, rfl⟩; replace hS := hS.alloc (.cells #[.int .i64 lo, .int .i64 hi] 24); clear z1 z2; have z1 := hS.a.lo; have z2 := hS.a.hi) | (go_at_call 25; refine (farAll_any _ _ _).mono ?_; rintro e w7 ⟨rfl, hb⟩; replace hS := hS.step hb; clear hb; clear z1 z2; have z1 := hS.a.lo; have z2 := hS.a.hi) | (go_at_call 26; refine (midAll_any _ _ _).mono ?_; rintro e w8 ⟨rfl, hb⟩; replace hS := hS.step hb; clear hb; clear z1 z2; have z1 := hS.a.lo; have z2 := hS.a.hi))
  go_returns
  exact ⟨rfl, hS.below⟩

set_option maxRecDepth 100000 in
set_option maxHeartbeats 4000000 in
theorem walk_right (lo hi n : Int) (w : World) (hg : HasErr w) (h : Um.chk lo hi = 0) (hn : ¬ (n < 0 ∨ 4 < n)) :
    Calls Tryd.prog 6 #[.agg #[.int .i64 lo, .int .i64 hi], .int .i64 n] w fun e w' => e = .returned (.bool true) ∧ Below w.heap.size w w' := by
  have e2 : midAll lo hi = (Um.midR lo hi, 0) := by unfold midAll; rw [if_pos h]
  have e3 : farAll lo hi = ((Um.farR lo hi).1, (Um.farR lo hi).2, 0) := by unfold farAll; rw [if_pos h]
  obtain ⟨m1, m2, m3⟩ := Um.chk_ok.1 h
  obtain ⟨b1, b2⟩ := (Um.may_iff lo).1 m1
  obtain ⟨b3, b4⟩ := (Um.may_iff hi).1 m2
  have HF := fun w => hid (rFar_any lo hi w b1 b2 b3 b4 m3)
  have HM := fun w => hid (rMiddle_any lo hi w b1 b2 b3 b4)
  have HO := fun w => hid (of_any lo hi n w)
  have HP := fun w => hid (rPower_any lo hi n n.toNat w h (by omega) (by omega))
  have e1 : Um.ofR lo hi n = Um.powR lo hi n.toNat := by unfold Um.ofR; rw [if_pos h, if_neg hn]
  rw [e1] at HO
  clear e1
  generalize Um.powR lo hi n.toNat = R at *
  have t1 : decide (n < 0) = false := by simp; omega
  have t2 : decide (4 < n) = false := by simp; omega
  clear hn
  have hS := Pt.start hg lo hi
  have z1 := hS.a.lo
  have z2 := hS.a.hi
  clear hg
  go_enter Tryd.func6, Tryd.ntmps6
  go_upto_region 4 with (go_at_call 20; refine (rSpan_any _ _ _).mono ?_; rintro e w1 ⟨rfl, rfl⟩)
  go_wp2_with (first | (go_at_call 21; refine (HP _).out.mono ?_; rintro e w1 ⟨rfl, hb⟩; replace hS := hS.step hb; clear hb; clear z1 z2; have z1 := hS.a.lo; have z2 := hS.a.hi; have y1 := hS.p.fl; have y2 := hS.p.fh; have y3 := hS.p.lo; have y4 := hS.p.hi; replace hS := hS.put R.1 R.2.1) | (go_at_call 22; refine (HO _).out.mono ?_; rintro e w2 ⟨rfl, hb⟩; replace hS := hS.step hb; clear hb z1 z2; have sX := Sp.new w2 R.1 R.2.1; replace hS := hS.alloc (.cells #[.int .i64 R.1, .int .i64 R.2.1] 24); have z1 := hS.a.lo; have z2 := hS.a.hi) | (go_at_call 13; refine (same_any _ _ _ hS.err).mono ?_; rintro e w3 ⟨rfl, hb⟩; replace sX := sX.step hb; have x1 := sX.lo; have x2 := sX.hi; clear sX; replace hS := hS.step hb; clear hb; clear z1 z2; have z1 := hS.a.lo; have z2 := hS.a.hi; have p1 := hS.p.lo; have p2 := hS.p.hi) | (go_at_call 13; refine (same_any _ _ _ hS.err).mono ?_; rintro e w4 ⟨rfl, hb⟩; replace hS := hS.step hb; clear hb; clear z1 z2; have z1 := hS.a.lo; have z2 := hS.a.hi) | (go_at_call 23; refine (HF _).out.mono ?_; rintro e w5 ⟨rfl, rfl⟩; replace hS := (hS.alloc (.cells #[.int .i64 lo, .int .i64 hi] 24)).alloc (.cells #[.int .i64 lo, .int .i64 hi] 24); clear z1 z2; have z1 := hS.a.lo; have z2 := hS.a.hi) | (go_at_call 24; refine (HM _).out.mono ?_; rintro e w6 ⟨rfl, rfl⟩; replace hS := hS.alloc (.cells #[.int .i64 lo, .int .i64 hi] 24); clear z1 z2; have z1 := hS.a.lo; have z2 := hS.a.hi) | (go_at_call 25; refine (farAll_any _ _ _).mono ?_; rintro e w7 ⟨rfl, hb⟩; replace hS := hS.step hb; clear hb; clear z1 z2; have z1 := hS.a.lo; have z2 := hS.a.hi) | (go_at_call 26; refine (midAll_any _ _ _).mono ?_; rintro e w8 ⟨rfl, hb⟩; replace hS := hS.step hb; clear hb; clear z1 z2; have z1 := hS.a.lo; have z2 := hS.a.hi))
  go_returns
  exact ⟨rfl, hS.below⟩

theorem walk (lo hi n : Int) (w : World) (hg : HasErr w) :
    Calls Tryd.prog 6 #[.agg #[.int .i64 lo, .int .i64 hi], .int .i64 n] w fun e w' => e = .returned (.bool true) ∧ Below w.heap.size w w' := by
  by_cases h : Um.chk lo hi = 0
  · by_cases hn : n < 0 ∨ 4 < n
    · by_cases h1 : n < 0
      · exact walk_below lo hi n w hg h hn h1
      · exact walk_above lo hi n w hg h hn h1
    · exact walk_right lo hi n w hg h hn
  · exact walk_wrong lo hi n w hg h
end Go.Proofs.YthoeifpmakdfnaaDoor.PTells
