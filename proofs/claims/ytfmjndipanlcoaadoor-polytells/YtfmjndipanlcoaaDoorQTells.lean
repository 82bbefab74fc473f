/-
  The walk over 'spanlaw1.PolyTells': for all p, x it returns true.
-/
import Derived.Test.YtfmjndipanlcoaaDoorPolyH
import Derived.Test.YtfmjndipanlcoaaDoorPolyP
import Derived.Test.YtfmjndipanlcoaaDoorPolyD
import Derived.Test.YtfmjndipanlcoaaDoorRefPows
import Derived.Test.YtfmjndipanlcoaaDoorRefDer
import Derived.Test.YtfmjndipanlcoaaDoorSame
import Derived.Deep.DeepCutAuto
namespace Go.Proofs.YtfmjndipanlcoaaDoor.QTells
set_option linter.unusedSimpArgs false
open Go.RowKit

theorem der_length {p : List Int} (h : Um.pchk p = 0) : (Um.derR p).1.length ≤ 5 := by
  obtain ⟨h0, h5, _⟩ := Um.pchk_ok.1 h
  unfold Um.derR
  split
  · show (Um.ders p).length ≤ 5
    by_cases h1 : 1 < p.length
    · rw [Um.ders_length h1]; omega
    · unfold Um.ders; rw [if_pos (by omega)]; simp
  · simp
/-- The span in its block, what is wanted in its own. -/
structure Q0 (w wr : World) (lo hi : Int) (P : Nat) (a b : Int) : Prop where
  below : Below w.heap.size w wr
  x : Sp wr w.heap.size lo hi
  p : Sp wr P a b
  l1 : w.heap.size < P
theorem Q0.start {w wd : World} {lo hi : Int} (hB : Below w.heap.size w wd) (hX : Sp wd w.heap.size lo hi) : Q0 w (wd.alloc (.cells #[.int .i64 0, .int .i64 0] 23)) lo hi wd.heap.size 0 0 :=
  ⟨hB.alloc hB.size _, hX.alloc _, Sp.new _ _ _, hX.lt⟩
theorem Q0.step {w wr w' : World} {lo hi a b : Int} {P : Nat} (h : Q0 w wr lo hi P a b) (hb : Below wr.heap.size wr w') : Q0 w w' lo hi P a b :=
  ⟨h.below.trans (hb.mono h.below.size), h.x.step hb, h.p.step hb, h.l1⟩
theorem Q0.put {w wr : World} {lo hi a b : Int} {P : Nat} (h : Q0 w wr lo hi P a b) (c d : Int) : Q0 w ((wr.setCell ⟨P, 0, none⟩ (.int .i64 c)).setCell ⟨P, 1, none⟩ (.int .i64 d)) lo hi P c d := by
  have hl := h.l1
  exact ⟨(h.below.setCell (by simp only []; omega) _).setCell (by simp only []; omega) _, (h.x.other _ _ (by simp only []; omega)).other _ _ (by simp only []; omega), h.p.set c d, hl⟩
/-- .. and what was told in its own, too. -/
structure Q1 (w wr : World) (lo hi : Int) (P Q : Nat) (a b c d : Int) : Prop where
  below : Below w.heap.size w wr
  x : Sp wr w.heap.size lo hi
  p : Sp wr P a b
  q : Sp wr Q c d
  l1 : w.heap.size < P
  l2 : P < Q
theorem Q1.start {w we : World} {lo hi a b : Int} {P : Nat} (h : Q0 w we lo hi P a b) (c d : Int) : Q1 w (we.alloc (.cells #[.int .i64 c, .int .i64 d] 23)) lo hi P we.heap.size a b c d :=
  ⟨h.below.alloc h.below.size _, h.x.alloc _, h.p.alloc _, Sp.new _ _ _, h.l1, h.p.lt⟩
theorem Q1.step {w wr w' : World} {lo hi a b c d : Int} {P Q : Nat} (h : Q1 w wr lo hi P Q a b c d) (hb : Below wr.heap.size wr w') : Q1 w w' lo hi P Q a b c d :=
  ⟨h.below.trans (hb.mono h.below.size), h.x.step hb, h.p.step hb, h.q.step hb, h.l1, h.l2⟩
theorem Q1.putP {w wr : World} {lo hi a b c d : Int} {P Q : Nat} (h : Q1 w wr lo hi P Q a b c d) (a' b' : Int) : Q1 w ((wr.setCell ⟨P, 0, none⟩ (.int .i64 a')).setCell ⟨P, 1, none⟩ (.int .i64 b')) lo hi P Q a' b' c d := by
  have hl := h.l1
  have hm := h.l2
  exact ⟨(h.below.setCell (by simp only []; omega) _).setCell (by simp only []; omega) _, (h.x.other _ _ (by simp only []; omega)).other _ _ (by simp only []; omega), h.p.set a' b', (h.q.other _ _ (by simp only []; omega)).other _ _ (by simp only []; omega), hl, hm⟩
theorem Q1.putQ {w wr : World} {lo hi a b c d : Int} {P Q : Nat} (h : Q1 w wr lo hi P Q a b c d) (c' d' : Int) : Q1 w ((wr.setCell ⟨Q, 0, none⟩ (.int .i64 c')).setCell ⟨Q, 1, none⟩ (.int .i64 d')) lo hi P Q a b c' d' := by
  have hl := h.l1
  have hm := h.l2
  exact ⟨(h.below.setCell (by simp only []; omega) _).setCell (by simp only []; omega) _, (h.x.other _ _ (by simp only []; omega)).other _ _ (by simp only []; omega), (h.p.other _ _ (by simp only []; omega)).other _ _ (by simp only []; omega), h.q.set c' d', hl, hm⟩

set_option maxRecDepth 100000 in
set_option maxHeartbeats 8000000 in
theorem walk_wrong (p : List Int) (v : Value) (lo hi : Int) (w : World) (hg : HasErr w) (hl : Li w.heap.size w v p) (h : ¬ Um.pchk p = 0) :
    Calls Tryd.prog 5 #[v, .agg #[.int .i64 lo, .int .i64 hi]] w fun e w' => e = .returned (.bool true) ∧ Below w.heap.size w w' := by
  have HPo := fun w1 hl => hid (rPoly_any w.heap.size p v w1 hl)
  have HCh := fun w1 hl => hid (pcheck_any w.heap.size p v w1 hl)
  have HOv := fun w1 hl => hid (rOver_any p v lo hi w1 hl)
  have HHo := fun w1 hl => hid (horner_any p v lo hi w1 hl)
  have HPw := fun w1 hl => hid (powers_any p v lo hi w1 hl)
  have HDe := fun w1 hl => hid (derive_any p v w1 hl)
  have e1 : Um.over p lo hi = Um.pchk p := by unfold Um.over; rw [if_neg h]
  have e2 : Um.hornAll p lo hi = (0, 0, Um.pchk p) := by unfold Um.hornAll; rw [e1, if_neg h]
  have e3 : Um.powsAll p lo hi = (0, 0, Um.pchk p) := by unfold Um.powsAll; rw [e1, if_neg h]
  have e4 : derAll p = ([], Um.pchk p) := by unfold derAll; rw [if_neg h]
  rw [e1] at HOv
  rw [e2] at HHo
  rw [e3] at HPw
  rw [e4] at HDe
  have k1 : (Um.pchk p == 0) = false := by simpa using h
  have hd5 : ([] : List Int).length ≤ 5 := by decide
  clear h e1 e2 e3 e4
  generalize Um.pchk p = G at *
  have hX := Sp.new w lo hi
  have hB : Below w.heap.size w (w.alloc (.cells #[.int .i64 lo, .int .i64 hi] 23)) := by go_grown
  have x1 := hX.lo
  have x2 := hX.hi
  obtain ⟨a0, cap0, rfl, -⟩ := (id hl)
  go_enter Tryd.func5, Tryd.ntmps5
  go_upto_region 8 with (first | (go_at_call 24; refine (HPo _ (hl.keep hB)).out.mono ?_; rintro e wa ⟨rfl, rfl⟩) | (go_at_call 25; refine (HCh _ (hl.keep hB)).out.mono ?_; rintro e wb ⟨rfl, rfl⟩) | (go_at_call 9; refine (same_any _ _ _ (hg.below (B := w.heap.size) hB hg.size)).mono ?_; rintro e wc ⟨rfl, hb⟩; replace hX := hX.step hb; replace hB := hB.trans (hb.mono hB.size); clear hb x1 x2; have x1 := hX.lo; have x2 := hX.hi) | (go_at_call 26; refine (HOv _ ((hl.keep hB).wide hB.size)).out.mono ?_; rintro e wd ⟨rfl, hb⟩; replace hX := hX.step hb; replace hB := hB.trans (hb.mono hB.size); clear hb x1 x2; have hS := Q0.start hB hX; clear hB hX; have x1 := hS.x.lo; have x2 := hS.x.hi))
  clear HPo HCh HOv
  go_upto_region 10 with (first | (go_at_call 28; refine (HHo _ ((hl.keep hS.below).wide hS.below.size)).out.mono ?_; rintro e we ⟨rfl, hb⟩; replace hS := hS.step hb; clear hb x1 x2; have hT := Q1.start hS 0 0; clear hS; have x1 := hT.x.lo; have x2 := hT.x.hi) | (go_at_call 9; refine (same_any _ _ _ (hg.below (B := w.heap.size) hT.below hg.size)).mono ?_; rintro e wf ⟨rfl, hb⟩; replace hT := hT.step hb; clear hb x1 x2; have x1 := hT.x.lo; have x2 := hT.x.hi; have p1 := hT.p.lo; have p2 := hT.p.hi; have r1 := hT.q.lo; have r2 := hT.q.hi))
  clear x1 x2 p1 p2 r1 r2
  have y1 := hT.p.fl
  have y2 := hT.p.fh
  have y3 := hT.p.lo
  have y4 := hT.p.hi
  replace hT := hT.putP 0 0
  have x1 := hT.x.lo
  have x2 := hT.x.hi
  go_upto_region 15 with (first | (go_at_call 30; refine (HPw _ ((hl.keep hT.below).wide hT.below.size)).out.mono ?_; rintro e wj ⟨rfl, hb⟩; replace hT := hT.step hb; clear hb x1 x2; have z1 := hT.q.fl; have z2 := hT.q.fh; have z3 := hT.q.lo; have z4 := hT.q.hi; replace hT := hT.putQ 0 0; have x1 := hT.x.lo; have x2 := hT.x.hi) | (go_at_call 9; refine (same_any _ _ _ (hg.below (B := w.heap.size) hT.below hg.size)).mono ?_; rintro e wf ⟨rfl, hb⟩; replace hT := hT.step hb; clear hb x1 x2; have x1 := hT.x.lo; have x2 := hT.x.hi; have p1 := hT.p.lo; have p2 := hT.p.hi; have r1 := hT.q.lo; have r2 := hT.q.hi))
  have hB := hT.below
  clear hT x1 x2 p1 p2 r1 r2 HHo HPw
  go_wp2_with (first | (go_at_call 32; refine (HDe _ ((hl.keep hB).wide hB.size)).out.mono ?_; rintro e wl ⟨v8, rfl, l8, hb⟩; replace hB := hB.trans (hb.mono hB.size); have l7 := Li.nil wl.heap.size wl; clear hb) | (go_at_call 9; refine (same_any _ _ _ (hg.below (B := w.heap.size) hB hg.size)).mono ?_; rintro e wm ⟨rfl, hb⟩; replace hB := hB.trans (hb.mono hB.size); replace l7 := (l7.keep hb).wide hb.size; replace l8 := (l8.keep hb).wide hb.size; clear hb) | (go_at_call 33; refine (rInts_same _ _ _ _ l8 l7 hd5).mono ?_; rintro e wn ⟨rfl, hb⟩; replace hB := hB.trans (hb.mono hB.size); clear hb))
  go_returns
  exact ⟨rfl, hB⟩

set_option maxRecDepth 100000 in
set_option maxHeartbeats 8000000 in
theorem walk_span (p : List Int) (v : Value) (lo hi : Int) (w : World) (hg : HasErr w) (hl : Li w.heap.size w v p) (h : Um.pchk p = 0) (h2 : ¬ Um.chk lo hi = 0) :
    Calls Tryd.prog 5 #[v, .agg #[.int .i64 lo, .int .i64 hi]] w fun e w' => e = .returned (.bool true) ∧ Below w.heap.size w w' := by
  have HPo := fun w1 hl => hid (rPoly_any w.heap.size p v w1 hl)
  have HCh := fun w1 hl => hid (pcheck_any w.heap.size p v w1 hl)
  have HOv := fun w1 hl => hid (rOver_any p v lo hi w1 hl)
  have HHo := fun w1 hl => hid (horner_any p v lo hi w1 hl)
  have HPw := fun w1 hl => hid (powers_any p v lo hi w1 hl)
  have HDe := fun w1 hl => hid (derive_any p v w1 hl)
  have e1 : Um.over p lo hi = Um.chk lo hi := by unfold Um.over; rw [if_pos h]
  have e2 : Um.hornAll p lo hi = (0, 0, Um.chk lo hi) := by unfold Um.hornAll; rw [e1, if_neg h2]
  have e3 : Um.powsAll p lo hi = (0, 0, Um.chk lo hi) := by unfold Um.powsAll; rw [e1, if_neg h2]
  have e4 : derAll p = Um.derR p := by unfold derAll; rw [if_pos h]
  rw [e1] at HOv
  rw [e2] at HHo
  rw [e3] at HPw
  rw [e4] at HDe
  rw [h] at HPo HCh
  have HRD := fun w1 hl => hid (rDerive_any p v w1 hl h)
  have k1 : (Um.chk lo hi == 0) = false := by simpa using h2
  have hd5 := der_length h
  clear h h2 e1 e2 e3 e4
  generalize Um.chk lo hi = G at *
  generalize Um.derR p = D at *
  have hX := Sp.new w lo hi
  have hB : Below w.heap.size w (w.alloc (.cells #[.int .i64 lo, .int .i64 hi] 23)) := by go_grown
  have x1 := hX.lo
  have x2 := hX.hi
  obtain ⟨a0, cap0, rfl, -⟩ := (id hl)
  go_enter Tryd.func5, Tryd.ntmps5
  go_upto_region 8 with (first | (go_at_call 24; refine (HPo _ (hl.keep hB)).out.mono ?_; rintro e wa ⟨rfl, rfl⟩) | (go_at_call 25; refine (HCh _ (hl.keep hB)).out.mono ?_; rintro e wb ⟨rfl, rfl⟩) | (go_at_call 9; refine (same_any _ _ _ (hg.below (B := w.heap.size) hB hg.size)).mono ?_; rintro e wc ⟨rfl, hb⟩; replace hX := hX.step hb; replace hB := hB.trans (hb.mono hB.size); clear hb x1 x2; have x1 := hX.lo; have x2 := hX.hi) | (go_at_call 26; refine (HOv _ ((hl.keep hB).wide hB.size)).out.mono ?_; rintro e wd ⟨rfl, hb⟩; replace hX := hX.step hb; replace hB := hB.trans (hb.mono hB.size); clear hb x1 x2; have hS := Q0.start hB hX; clear hB hX; have x1 := hS.x.lo; have x2 := hS.x.hi))
  clear HPo HCh HOv
  go_upto_region 10 with (first | (go_at_call 28; refine (HHo _ ((hl.keep hS.below).wide hS.below.size)).out.mono ?_; rintro e we ⟨rfl, hb⟩; replace hS := hS.step hb; clear hb x1 x2; have hT := Q1.start hS 0 0; clear hS; have x1 := hT.x.lo; have x2 := hT.x.hi) | (go_at_call 9; refine (same_any _ _ _ (hg.below (B := w.heap.size) hT.below hg.size)).mono ?_; rintro e wf ⟨rfl, hb⟩; replace hT := hT.step hb; clear hb x1 x2; have x1 := hT.x.lo; have x2 := hT.x.hi; have p1 := hT.p.lo; have p2 := hT.p.hi; have r1 := hT.q.lo; have r2 := hT.q.hi))
  clear x1 x2 p1 p2 r1 r2
  have y1 := hT.p.fl
  have y2 := hT.p.fh
  have y3 := hT.p.lo
  have y4 := hT.p.hi
  replace hT := hT.putP 0 0
  have x1 := hT.x.lo
  have x2 := hT.x.hi
  go_upto_region 15 with (first | (go_at_call 30; refine (HPw _ ((hl.keep hT.below).wide hT.below.size)).out.mono ?_; rintro e wj ⟨rfl, hb⟩; replace hT := hT.step hb; clear hb x1 x2; have z1 := hT.q.fl; have z2 := hT.q.fh; have z3 := hT.q.lo; have z4 := hT.q.hi; replace hT := hT.putQ 0 0; have x1 := hT.x.lo; have x2 := hT.x.hi) | (go_at_call 9; refine (same_any _ _ _ (hg.below (B := w.heap.size) hT.below hg.size)).mono ?_; rintro e wf ⟨rfl, hb⟩; replace hT := hT.step hb; clear hb x1 x2; have x1 := hT.x.lo; have x2 := hT.x.hi; have p1 := hT.p.lo; have p2 := hT.p.hi; have r1 := hT.q.lo; have r2 := hT.q.hi))
  have hB := hT.below
  clear hT x1 x2 p1 p2 r1 r2 HHo HPw
  go_wp2_with (first | (go_at_call 31; refine (HRD _ ((hl.keep hB).wide hB.size)).out.mono ?_; rintro e wk ⟨v7, rfl, l7, hb⟩; replace hB := hB.trans (hb.mono hB.size); clear hb) | (go_at_call 32; refine (HDe _ ((hl.keep hB).wide hB.size)).out.mono ?_; rintro e wl ⟨v8, rfl, l8, hb⟩; replace hB := hB.trans (hb.mono hB.size); replace l7 := (l7.keep hb).wide hb.size; clear hb) | (go_at_call 9; refine (same_any _ _ _ (hg.below (B := w.heap.size) hB hg.size)).mono ?_; rintro e wm ⟨rfl, hb⟩; replace hB := hB.trans (hb.mono hB.size); replace l7 := (l7.keep hb).wide hb.size; replace l8 := (l8.keep hb).wide hb.size; clear hb) | (go_at_call 33; refine (rInts_same _ _ _ _ l8 l7 hd5).mono ?_; rintro e wn ⟨rfl, hb⟩; replace hB := hB.trans (hb.mono hB.size); clear hb))
  go_returns
  exact ⟨rfl, hB⟩

set_option maxRecDepth 100000 in
set_option maxHeartbeats 8000000 in
theorem walk_right (p : List Int) (v : Value) (lo hi : Int) (w : World) (hg : HasErr w) (hl : Li w.heap.size w v p) (h : Um.pchk p = 0) (h2 : Um.chk lo hi = 0) :
    Calls Tryd.prog 5 #[v, .agg #[.int .i64 lo, .int .i64 hi]] w fun e w' => e = .returned (.bool true) ∧ Below w.heap.size w w' := by
  have HPo := fun w1 hl => hid (rPoly_any w.heap.size p v w1 hl)
  have HCh := fun w1 hl => hid (pcheck_any w.heap.size p v w1 hl)
  have HOv := fun w1 hl => hid (rOver_any p v lo hi w1 hl)
  have HHo := fun w1 hl => hid (horner_any p v lo hi w1 hl)
  have HPw := fun w1 hl => hid (powers_any p v lo hi w1 hl)
  have HDe := fun w1 hl => hid (derive_any p v w1 hl)
  have ho := Um.over_ok.2 ⟨h, h2⟩
  have e2 : Um.hornAll p lo hi = Um.hornR lo hi p := by unfold Um.hornAll; rw [if_pos ho]
  have e3 : Um.powsAll p lo hi = Um.powsN lo hi p p.length := by unfold Um.powsAll; rw [if_pos ho]
  have e4 : derAll p = Um.derR p := by unfold derAll; rw [if_pos h]
  rw [ho] at HOv
  rw [e2] at HHo
  rw [e3] at HPw
  rw [e4] at HDe
  rw [h] at HPo HCh
  have HRH := fun w1 hl => hid (rHorner_any p v lo hi w1 hl ho)
  have HRP := fun w1 hl => hid (rPowers_any p v lo hi w1 hl ho)
  have HRD := fun w1 hl => hid (rDerive_any p v w1 hl h)
  have hd5 := der_length h
  clear h h2 ho e2 e3 e4
  generalize Um.hornR lo hi p = R at *
  generalize Um.powsN lo hi p p.length = S at *
  generalize Um.derR p = D at *
  have hX := Sp.new w lo hi
  have hB : Below w.heap.size w (w.alloc (.cells #[.int .i64 lo, .int .i64 hi] 23)) := by go_grown
  have x1 := hX.lo
  have x2 := hX.hi
  obtain ⟨a0, cap0, rfl, -⟩ := (id hl)
  go_enter Tryd.func5, Tryd.ntmps5
  go_upto_region 8 with (first | (go_at_call 24; refine (HPo _ (hl.keep hB)).out.mono ?_; rintro e wa ⟨rfl, rfl⟩) | (go_at_call 25; refine (HCh _ (hl.keep hB)).out.mono ?_; rintro e wb ⟨rfl, rfl⟩) | (go_at_call 9; refine (same_any _ _ _ (hg.below (B := w.heap.size) hB hg.size)).mono ?_; rintro e wc ⟨rfl, hb⟩; replace hX := hX.step hb; replace hB := hB.trans (hb.mono hB.size); clear hb x1 x2; have x1 := hX.lo; have x2 := hX.hi) | (go_at_call 26; refine (HOv _ ((hl.keep hB).wide hB.size)).out.mono ?_; rintro e wd ⟨rfl, hb⟩; replace hX := hX.step hb; replace hB := hB.trans (hb.mono hB.size); clear hb x1 x2; have hS := Q0.start hB hX; clear hB hX; have x1 := hS.x.lo; have x2 := hS.x.hi) | (go_at_call 27; refine (HRH _ ((hl.keep hS.below).wide hS.below.size)).out.mono ?_; rintro e wh ⟨rfl, hb⟩; replace hS := hS.step hb; clear hb x1 x2; have y1 := hS.p.fl; have y2 := hS.p.fh; have y3 := hS.p.lo; have y4 := hS.p.hi; replace hS := hS.put R.1 R.2.1; have x1 := hS.x.lo; have x2 := hS.x.hi))
  clear HPo HCh HOv
  go_upto_region 10 with (first | (go_at_call 28; refine (HHo _ ((hl.keep hS.below).wide hS.below.size)).out.mono ?_; rintro e we ⟨rfl, hb⟩; replace hS := hS.step hb; clear hb x1 x2; have hT := Q1.start hS R.1 R.2.1; clear hS; have x1 := hT.x.lo; have x2 := hT.x.hi) | (go_at_call 9; refine (same_any _ _ _ (hg.below (B := w.heap.size) hT.below hg.size)).mono ?_; rintro e wf ⟨rfl, hb⟩; replace hT := hT.step hb; clear hb x1 x2; have x1 := hT.x.lo; have x2 := hT.x.hi; have p1 := hT.p.lo; have p2 := hT.p.hi; have r1 := hT.q.lo; have r2 := hT.q.hi))
  clear x1 x2 p1 p2 r1 r2
  have y1 := hT.p.fl
  have y2 := hT.p.fh
  have y3 := hT.p.lo
  have y4 := hT.p.hi
  replace hT := hT.putP 0 0
  have x1 := hT.x.lo
  have x2 := hT.x.hi
  go_upto_region 15 with (first | (go_at_call 29; refine (HRP _ ((hl.keep hT.below).wide hT.below.size)).out.mono ?_; rintro e wi ⟨rfl, hb⟩; replace hT := hT.step hb; clear hb x1 x2; have y1 := hT.p.fl; have y2 := hT.p.fh; have y3 := hT.p.lo; have y4 := hT.p.hi; replace hT := hT.putP S.1 S.2.1; have x1 := hT.x.lo; have x2 := hT.x.hi) | (go_at_call 30; refine (HPw _ ((hl.keep hT.below).wide hT.below.size)).out.mono ?_; rintro e wj ⟨rfl, hb⟩; replace hT := hT.step hb; clear hb x1 x2; have z1 := hT.q.fl; have z2 := hT.q.fh; have z3 := hT.q.lo; have z4 := hT.q.hi; replace hT := hT.putQ S.1 S.2.1; have x1 := hT.x.lo; have x2 := hT.x.hi) | (go_at_call 9; refine (same_any _ _ _ (hg.below (B := w.heap.size) hT.below hg.size)).mono ?_; rintro e wf ⟨rfl, hb⟩; replace hT := hT.step hb; clear hb x1 x2; have x1 := hT.x.lo; have x2 := hT.x.hi; have p1 := hT.p.lo; have p2 := hT.p.hi; have r1 := hT.q.lo; have r2 := hT.q.hi))
  have hB := hT.below
  clear hT x1 x2 p1 p2 r1 r2 HHo HPw
  go_wp2_with (first | (go_at_call 31; refine (HRD _ ((hl.keep hB).wide hB.size)).out.mono ?_; rintro e wk ⟨v7, rfl, l7, hb⟩; replace hB := hB.trans (hb.mono hB.size); clear hb) | (go_at_call 32; refine (HDe _ ((hl.keep hB).wide hB.size)).out.mono ?_; rintro e wl ⟨v8, rfl, l8, hb⟩; replace hB := hB.trans (hb.mono hB.size); replace l7 := (l7.keep hb).wide hb.size; clear hb) | (go_at_call 9; refine (same_any _ _ _ (hg.below (B := w.heap.size) hB hg.size)).mono ?_; rintro e wm ⟨rfl, hb⟩; replace hB := hB.trans (hb.mono hB.size); replace l7 := (l7.keep hb).wide hb.size; replace l8 := (l8.keep hb).wide hb.size; clear hb) | (go_at_call 33; refine (rInts_same _ _ _ _ l8 l7 hd5).mono ?_; rintro e wn ⟨rfl, hb⟩; replace hB := hB.trans (hb.mono hB.size); clear hb))
  go_returns
  exact ⟨rfl, hB⟩

theorem walk (p : List Int) (v : Value) (lo hi : Int) (w : World) (hg : HasErr w) (hl : Li w.heap.size w v p) :
    Calls Tryd.prog 5 #[v, .agg #[.int .i64 lo, .int .i64 hi]] w fun e w' => e = .returned (.bool true) ∧ Below w.heap.size w w' := by
  by_cases h : Um.pchk p = 0
  · by_cases h2 : Um.chk lo hi = 0
    · exact walk_right p v lo hi w hg hl h h2
    · exact walk_span p v lo hi w hg hl h h2
  · exact walk_wrong p v lo hi w hg hl h
end Go.Proofs.YtfmjndipanlcoaaDoor.QTells
