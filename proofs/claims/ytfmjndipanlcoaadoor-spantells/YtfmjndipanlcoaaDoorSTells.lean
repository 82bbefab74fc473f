/-
  The walk over 'spanlaw1.SpanTells': for all a, b it returns true.
-/
import Derived.Test.YtfmjndipanlcoaaDoorRefSpan
import Derived.Test.YtfmjndipanlcoaaDoorSpanAdd
import Derived.Test.YtfmjndipanlcoaaDoorSpanHull
import Derived.Test.YtfmjndipanlcoaaDoorSpanTimes
import Derived.Test.YtfmjndipanlcoaaDoorSpanBy
import Derived.Test.YtfmjndipanlcoaaDoorMems
import Derived.Test.YtfmjndipanlcoaaDoorSame
import Derived.Deep.DeepCutAuto
namespace Go.Proofs.YtfmjndipanlcoaaDoor.STells
set_option linter.unusedSimpArgs false
open Go.RowKit

/-- What is carried along the law: both spans in their blocks; what is wanted, and which errors; nothing that was there has turned. -/
structure St (w wr : World) (al ah bl bh : Int) (P : Nat) (cs fs : Array Value) : Prop where
  below : Below w.heap.size w wr
  err : HasErr wr
  g : 0 < w.heap.size
  a : Sp wr w.heap.size al ah
  b : Sp wr (w.heap.size + 1) bl bh
  p : Blk wr P 30 cs
  f : Blk wr (P + 1) 31 fs
  lt : w.heap.size + 1 < P
theorem St.step {w wr w' : World} {al ah bl bh : Int} {P : Nat} {cs fs : Array Value} (h : St w wr al ah bl bh P cs fs) (hb : Below wr.heap.size wr w') : St w w' al ah bl bh P cs fs :=
  ⟨h.below.trans (hb.mono h.below.size), h.err.below hb h.err.size, h.g, h.a.step hb, h.b.step hb, h.p.step hb, h.f.step hb, h.lt⟩
theorem St.alloc {w wr : World} {al ah bl bh : Int} {P : Nat} {cs fs : Array Value} (h : St w wr al ah bl bh P cs fs) (o : Obj) : St w (wr.alloc o) al ah bl bh P cs fs :=
  h.step ((Below.refl _ _).alloc (Nat.le_refl _) o)
theorem St.cs {w wr : World} {al ah bl bh : Int} {P : Nat} {cs fs cs' fs' : Array Value} (h : St w wr al ah bl bh P cs fs) (e1 : cs = cs') (e2 : fs = fs') : St w wr al ah bl bh P cs' fs' := by
  subst e1; subst e2; exact h
/-- A store into a block that is none of these. -/
theorem St.far {w wr : World} {al ah bl bh : Int} {P : Nat} {cs fs : Array Value} (h : St w wr al ah bl bh P cs fs) (X i : Nat) (v : Value) (hX : P + 1 < X) : St w (wr.setCell ⟨X, i, none⟩ v) al ah bl bh P cs fs := by
  have hl := h.lt
  have hb : Below w.heap.size w (wr.setCell ⟨X, i, none⟩ v) := h.below.setCell (by simp only []; omega) v
  have hc : Below w.heap.size wr (wr.setCell ⟨X, i, none⟩ v) := (Below.refl _ _).setCell (by simp only []; omega) v
  exact ⟨hb, h.err.below hc h.g, h.g, h.a.other _ _ (by simp only []; omega), h.b.other _ _ (by simp only []; omega), h.p.other _ _ (by simp only []; omega), h.f.other _ _ (by simp only []; omega), hl⟩
/-- A cell of what is wanted. -/
theorem St.putP {w wr : World} {al ah bl bh : Int} {P : Nat} {cs fs : Array Value} (h : St w wr al ah bl bh P cs fs) (i : Nat) (v : Value) {cs' : Array Value} (e : cs.setIfInBounds i v = cs') : St w (wr.setCell ⟨P, i, none⟩ v) al ah bl bh P cs' fs := by
  have hl := h.lt
  have hb : Below w.heap.size w (wr.setCell ⟨P, i, none⟩ v) := h.below.setCell (by simp only []; omega) v
  have hc : Below w.heap.size wr (wr.setCell ⟨P, i, none⟩ v) := (Below.refl _ _).setCell (by simp only []; omega) v
  exact ⟨hb, h.err.below hc h.g, h.g, h.a.other _ _ (by simp only []; omega), h.b.other _ _ (by simp only []; omega), h.p.set i v e, h.f.other _ _ (by simp only []; omega), hl⟩
theorem St.putF {w wr : World} {al ah bl bh : Int} {P : Nat} {cs fs : Array Value} (h : St w wr al ah bl bh P cs fs) (i : Nat) (v : Value) {fs' : Array Value} (e : fs.setIfInBounds i v = fs') : St w (wr.setCell ⟨P + 1, i, none⟩ v) al ah bl bh P cs fs' := by
  have hl := h.lt
  have hb : Below w.heap.size w (wr.setCell ⟨P + 1, i, none⟩ v) := h.below.setCell (by simp only []; omega) v
  have hc : Below w.heap.size wr (wr.setCell ⟨P + 1, i, none⟩ v) := (Below.refl _ _).setCell (by simp only []; omega) v
  exact ⟨hb, h.err.below hc h.g, h.g, h.a.other _ _ (by simp only []; omega), h.b.other _ _ (by simp only []; omega), h.p.other _ _ (by simp only []; omega), h.f.set i v e, hl⟩

set_option maxRecDepth 100000 in
set_option maxHeartbeats 4000000 in
theorem walk (al ah bl bh : Int) (w : World) (hg : HasErr w) :
    Calls Tryd.prog 3 #[.agg #[.int .i64 al, .int .i64 ah], .agg #[.int .i64 bl, .int .i64 bh]] w fun e w' => e = .returned (.bool true) ∧ Below w.heap.size w w' := by
  have s0 := Sp.new w al ah
  have s1 : Sp ((w.alloc (.cells #[.int .i64 al, .int .i64 ah] 23)).alloc (.cells #[.int .i64 bl, .int .i64 bh] 23)) (w.heap.size + 1) bl bh := by simpa only [World.size_alloc] using Sp.new (w.alloc (.cells #[.int .i64 al, .int .i64 ah] 23)) bl bh
  go_enter Tryd.func3, Tryd.ntmps3
  go_upto_if 34 with (first
    | (go_at_call 8; refine (rSpan_any _ _ _).mono ?_; rintro e w1 ⟨rfl, rfl⟩)
    | (go_at_call 10; refine (check_any _ _ _).mono ?_; rintro e w1 ⟨rfl, rfl⟩)
    | (go_at_call 9; refine (same_any _ _ _ (hg.below (by go_grown) hg.size)).mono ?_; rintro e w1 ⟨rfl, hb⟩; have sA := ((((s0.alloc _).alloc _).alloc _).alloc _).step hb; have sB := (((s1.alloc _).alloc _).alloc _).step hb; have c1 := sA.lo; have c2 := sA.hi; have c3 := sB.lo; have c4 := sB.hi; have hB1 : Below w.heap.size w w1 := Below.trans (by go_grown) (hb.mono (by simp; omega)); clear hb)
    | (go_at_call 11; refine (rTwo_any _ _ _ _ _).mono ?_; rintro e w2 ⟨rfl, hb⟩; have tA := sA.step hb; have tB := sB.step hb; have d1 := tA.lo; have d2 := tA.hi; have d3 := tB.lo; have d4 := tB.hi; have hB2 := hB1.trans (hb.mono hB1.size); clear hb c1 c2 c3 c4 sA sB hB1))
  have hS : St w ((w2.alloc (.cells #[.int .i64 0, .int .i64 0, .int .i64 0, .int .i64 0, .int .i64 0, .int .i64 0, .int .i64 0, .int .i64 0, .int .i64 0, .int .i64 0, .int .i64 0, .int .i64 0] 30)).alloc (.cells #[.int .i64 (Um.two al ah bl bh), .int .i64 (Um.two al ah bl bh), .int .i64 (Um.two al ah bl bh), .int .i64 (Um.two al ah bl bh), .int .i64 (Um.two al ah bl bh), .int .i64 (Um.two al ah bl bh)] 31)) al ah bl bh w2.heap.size #[.int .i64 0, .int .i64 0, .int .i64 0, .int .i64 0, .int .i64 0, .int .i64 0, .int .i64 0, .int .i64 0, .int .i64 0, .int .i64 0, .int .i64 0, .int .i64 0] #[.int .i64 (Um.two al ah bl bh), .int .i64 (Um.two al ah bl bh), .int .i64 (Um.two al ah bl bh), .int .i64 (Um.two al ah bl bh), .int .i64 (Um.two al ah bl bh), .int .i64 (Um.two al ah bl bh)] := by
    have hlt : w.heap.size + 1 < w2.heap.size := tB.lt
    have hz := hB2.size
    refine ⟨by go_grown, hg.below (B := w.heap.size) (by go_grown) hg.size, hg.size, (tA.alloc _).alloc _, (tB.alloc _).alloc _, (Blk.new _ _ _).alloc _, ?_, hlt⟩
    simpa only [World.size_alloc] using Blk.new (w2.alloc (.cells #[.int .i64 0, .int .i64 0, .int .i64 0, .int .i64 0, .int .i64 0, .int .i64 0, .int .i64 0, .int .i64 0, .int .i64 0, .int .i64 0, .int .i64 0, .int .i64 0] 30)) 31 #[.int .i64 (Um.two al ah bl bh), .int .i64 (Um.two al ah bl bh), .int .i64 (Um.two al ah bl bh), .int .i64 (Um.two al ah bl bh), .int .i64 (Um.two al ah bl bh), .int .i64 (Um.two al ah bl bh)]
  clear tA tB d1 d2 d3 d4 hB2 s0 s1 hg
  generalize ((w2.alloc (.cells #[.int .i64 0, .int .i64 0, .int .i64 0, .int .i64 0, .int .i64 0, .int .i64 0, .int .i64 0, .int .i64 0, .int .i64 0, .int .i64 0, .int .i64 0, .int .i64 0] 30)).alloc (.cells #[.int .i64 (Um.two al ah bl bh), .int .i64 (Um.two al ah bl bh), .int .i64 (Um.two al ah bl bh), .int .i64 (Um.two al ah bl bh), .int .i64 (Um.two al ah bl bh), .int .i64 (Um.two al ah bl bh)] 31)) = wq at *
  generalize w2.heap.size = P at *
  go_cut [] (fun wr => St w wr al ah bl bh P #[.int .i64 (Um.made (Um.addR al ah bl bh) al ah bl bh).1, .int .i64 (Um.made (Um.addR al ah bl bh) al ah bl bh).2.1, .int .i64 (Um.made (Um.lessR al ah bl bh) al ah bl bh).1, .int .i64 (Um.made (Um.lessR al ah bl bh) al ah bl bh).2.1, .int .i64 (Um.made (Um.stimesR al ah bl bh) al ah bl bh).1, .int .i64 (Um.made (Um.stimesR al ah bl bh) al ah bl bh).2.1, .int .i64 (Um.made (Um.sbyR al ah bl bh) al ah bl bh).1, .int .i64 (Um.made (Um.sbyR al ah bl bh) al ah bl bh).2.1, .int .i64 (Um.made (Um.hullR al ah bl bh) al ah bl bh).1, .int .i64 (Um.made (Um.hullR al ah bl bh) al ah bl bh).2.1, .int .i64 (Um.made (Um.meetR al ah bl bh) al ah bl bh).1, .int .i64 (Um.made (Um.meetR al ah bl bh) al ah bl bh).2.1] #[.int .i64 (Um.made (Um.addR al ah bl bh) al ah bl bh).2.2, .int .i64 (Um.made (Um.lessR al ah bl bh) al ah bl bh).2.2, .int .i64 (Um.made (Um.stimesR al ah bl bh) al ah bl bh).2.2, .int .i64 (Um.made (Um.sbyR al ah bl bh) al ah bl bh).2.2, .int .i64 (Um.made (Um.hullR al ah bl bh) al ah bl bh).2.2, .int .i64 (Um.made (Um.meetR al ah bl bh) al ah bl bh).2.2])
  case first =>
    by_cases h : Um.two al ah bl bh = 0
    · have hc := Um.two_ok.1 h
      obtain ⟨m1, m2, m3⟩ := Um.chk_ok.1 hc.1
      obtain ⟨m4, m5, m6⟩ := Um.chk_ok.1 hc.2
      have hf : (Um.two al ah bl bh == 0) = true := by simpa using h
      have HT := hid h
      clear h hc
      have z1 := hS.a.lo
      have z2 := hS.a.hi
      have z3 := hS.b.lo
      have z4 := hS.b.hi
      go_wp2_with (first
        | (go_at_call 12; refine (rAdd_any _ _ _ _ _ m1 m2 m4 m5).mono ?_; rintro e v0 ⟨rfl, hb⟩; replace hS := hS.step hb; clear hb z1 z2 z3 z4; have y1 := hS.p.cell 0 (v := .int .i64 0) rfl; have y2 := hS.p.free 0; have y3 := hS.p.cell 1 (v := .int .i64 0) rfl; have y4 := hS.p.free 1; have y5 := hS.f.cell 0 (v := .int .i64 (Um.two al ah bl bh)) rfl; have y6 := hS.f.free 0; have hS := hS.putP 0 (.int .i64 (Um.addR al ah bl bh).1) (cs' := #[.int .i64 (Um.addR al ah bl bh).1, .int .i64 0, .int .i64 0, .int .i64 0, .int .i64 0, .int .i64 0, .int .i64 0, .int .i64 0, .int .i64 0, .int .i64 0, .int .i64 0, .int .i64 0]) rfl; have y7 := hS.p.cell 1 (v := .int .i64 0) rfl; have hS := hS.putP 1 (.int .i64 (Um.addR al ah bl bh).2.1) (cs' := #[.int .i64 (Um.addR al ah bl bh).1, .int .i64 (Um.addR al ah bl bh).2.1, .int .i64 0, .int .i64 0, .int .i64 0, .int .i64 0, .int .i64 0, .int .i64 0, .int .i64 0, .int .i64 0, .int .i64 0, .int .i64 0]) rfl; have y8 := hS.f.cell 0 (v := .int .i64 (Um.two al ah bl bh)) rfl; have hS := hS.putF 0 (.int .i64 (Um.addR al ah bl bh).2.2) (fs' := #[.int .i64 (Um.addR al ah bl bh).2.2, .int .i64 (Um.two al ah bl bh), .int .i64 (Um.two al ah bl bh), .int .i64 (Um.two al ah bl bh), .int .i64 (Um.two al ah bl bh), .int .i64 (Um.two al ah bl bh)]) rfl; have z1 := hS.a.lo; have z2 := hS.a.hi; have z3 := hS.b.lo; have z4 := hS.b.hi)
        | (go_at_call 13; refine (rLess_any _ _ _ _ _ m1 m2 m4 m5).mono ?_; rintro e v1 ⟨rfl, hb⟩; replace hS := hS.step hb; clear hb z1 z2 z3 z4; have y1 := hS.p.cell 2 (v := .int .i64 0) rfl; have y2 := hS.p.free 2; have y3 := hS.p.cell 3 (v := .int .i64 0) rfl; have y4 := hS.p.free 3; have y5 := hS.f.cell 1 (v := .int .i64 (Um.two al ah bl bh)) rfl; have y6 := hS.f.free 1; have hS := hS.putP 2 (.int .i64 (Um.lessR al ah bl bh).1) (cs' := #[.int .i64 (Um.addR al ah bl bh).1, .int .i64 (Um.addR al ah bl bh).2.1, .int .i64 (Um.lessR al ah bl bh).1, .int .i64 0, .int .i64 0, .int .i64 0, .int .i64 0, .int .i64 0, .int .i64 0, .int .i64 0, .int .i64 0, .int .i64 0]) rfl; have y7 := hS.p.cell 3 (v := .int .i64 0) rfl; have hS := hS.putP 3 (.int .i64 (Um.lessR al ah bl bh).2.1) (cs' := #[.int .i64 (Um.addR al ah bl bh).1, .int .i64 (Um.addR al ah bl bh).2.1, .int .i64 (Um.lessR al ah bl bh).1, .int .i64 (Um.lessR al ah bl bh).2.1, .int .i64 0, .int .i64 0, .int .i64 0, .int .i64 0, .int .i64 0, .int .i64 0, .int .i64 0, .int .i64 0]) rfl; have y8 := hS.f.cell 1 (v := .int .i64 (Um.two al ah bl bh)) rfl; have hS := hS.putF 1 (.int .i64 (Um.lessR al ah bl bh).2.2) (fs' := #[.int .i64 (Um.addR al ah bl bh).2.2, .int .i64 (Um.lessR al ah bl bh).2.2, .int .i64 (Um.two al ah bl bh), .int .i64 (Um.two al ah bl bh), .int .i64 (Um.two al ah bl bh), .int .i64 (Um.two al ah bl bh)]) rfl; have z1 := hS.a.lo; have z2 := hS.a.hi; have z3 := hS.b.lo; have z4 := hS.b.hi)
        | (go_at_call 14; refine (rTimes_um _ _ _ _ _ m1 m2 m4 m5).mono ?_; rintro e v2 ⟨rfl, hb⟩; replace hS := hS.step hb; clear hb z1 z2 z3 z4; have y1 := hS.p.cell 4 (v := .int .i64 0) rfl; have y2 := hS.p.free 4; have y3 := hS.p.cell 5 (v := .int .i64 0) rfl; have y4 := hS.p.free 5; have y5 := hS.f.cell 2 (v := .int .i64 (Um.two al ah bl bh)) rfl; have y6 := hS.f.free 2; have hS := hS.putP 4 (.int .i64 (Um.stimesR al ah bl bh).1) (cs' := #[.int .i64 (Um.addR al ah bl bh).1, .int .i64 (Um.addR al ah bl bh).2.1, .int .i64 (Um.lessR al ah bl bh).1, .int .i64 (Um.lessR al ah bl bh).2.1, .int .i64 (Um.stimesR al ah bl bh).1, .int .i64 0, .int .i64 0, .int .i64 0, .int .i64 0, .int .i64 0, .int .i64 0, .int .i64 0]) rfl; have y7 := hS.p.cell 5 (v := .int .i64 0) rfl; have hS := hS.putP 5 (.int .i64 (Um.stimesR al ah bl bh).2.1) (cs' := #[.int .i64 (Um.addR al ah bl bh).1, .int .i64 (Um.addR al ah bl bh).2.1, .int .i64 (Um.lessR al ah bl bh).1, .int .i64 (Um.lessR al ah bl bh).2.1, .int .i64 (Um.stimesR al ah bl bh).1, .int .i64 (Um.stimesR al ah bl bh).2.1, .int .i64 0, .int .i64 0, .int .i64 0, .int .i64 0, .int .i64 0, .int .i64 0]) rfl; have y8 := hS.f.cell 2 (v := .int .i64 (Um.two al ah bl bh)) rfl; have hS := hS.putF 2 (.int .i64 (Um.stimesR al ah bl bh).2.2) (fs' := #[.int .i64 (Um.addR al ah bl bh).2.2, .int .i64 (Um.lessR al ah bl bh).2.2, .int .i64 (Um.stimesR al ah bl bh).2.2, .int .i64 (Um.two al ah bl bh), .int .i64 (Um.two al ah bl bh), .int .i64 (Um.two al ah bl bh)]) rfl; have z1 := hS.a.lo; have z2 := hS.a.hi; have z3 := hS.b.lo; have z4 := hS.b.hi)
        | (go_at_call 15; refine (rBy_um _ _ _ _ _ m1 m2 m4 m6).mono ?_; rintro e v3 ⟨rfl, hb⟩; replace hS := hS.step hb; clear hb z1 z2 z3 z4; have y1 := hS.p.cell 6 (v := .int .i64 0) rfl; have y2 := hS.p.free 6; have y3 := hS.p.cell 7 (v := .int .i64 0) rfl; have y4 := hS.p.free 7; have y5 := hS.f.cell 3 (v := .int .i64 (Um.two al ah bl bh)) rfl; have y6 := hS.f.free 3; have hS := hS.putP 6 (.int .i64 (Um.sbyR al ah bl bh).1) (cs' := #[.int .i64 (Um.addR al ah bl bh).1, .int .i64 (Um.addR al ah bl bh).2.1, .int .i64 (Um.lessR al ah bl bh).1, .int .i64 (Um.lessR al ah bl bh).2.1, .int .i64 (Um.stimesR al ah bl bh).1, .int .i64 (Um.stimesR al ah bl bh).2.1, .int .i64 (Um.sbyR al ah bl bh).1, .int .i64 0, .int .i64 0, .int .i64 0, .int .i64 0, .int .i64 0]) rfl; have y7 := hS.p.cell 7 (v := .int .i64 0) rfl; have hS := hS.putP 7 (.int .i64 (Um.sbyR al ah bl bh).2.1) (cs' := #[.int .i64 (Um.addR al ah bl bh).1, .int .i64 (Um.addR al ah bl bh).2.1, .int .i64 (Um.lessR al ah bl bh).1, .int .i64 (Um.lessR al ah bl bh).2.1, .int .i64 (Um.stimesR al ah bl bh).1, .int .i64 (Um.stimesR al ah bl bh).2.1, .int .i64 (Um.sbyR al ah bl bh).1, .int .i64 (Um.sbyR al ah bl bh).2.1, .int .i64 0, .int .i64 0, .int .i64 0, .int .i64 0]) rfl; have y8 := hS.f.cell 3 (v := .int .i64 (Um.two al ah bl bh)) rfl; have hS := hS.putF 3 (.int .i64 (Um.sbyR al ah bl bh).2.2) (fs' := #[.int .i64 (Um.addR al ah bl bh).2.2, .int .i64 (Um.lessR al ah bl bh).2.2, .int .i64 (Um.stimesR al ah bl bh).2.2, .int .i64 (Um.sbyR al ah bl bh).2.2, .int .i64 (Um.two al ah bl bh), .int .i64 (Um.two al ah bl bh)]) rfl; have z1 := hS.a.lo; have z2 := hS.a.hi; have z3 := hS.b.lo; have z4 := hS.b.hi)
        | (go_at_call 16; refine (rHull_any _ _ _ _ _).mono ?_; rintro e v4 ⟨rfl, hb⟩; replace hS := hS.step hb; clear hb z1 z2 z3 z4; have y1 := hS.p.cell 8 (v := .int .i64 0) rfl; have y2 := hS.p.free 8; have y3 := hS.p.cell 9 (v := .int .i64 0) rfl; have y4 := hS.p.free 9; have hS := hS.putP 8 (.int .i64 (Um.hullR al ah bl bh).1) (cs' := #[.int .i64 (Um.addR al ah bl bh).1, .int .i64 (Um.addR al ah bl bh).2.1, .int .i64 (Um.lessR al ah bl bh).1, .int .i64 (Um.lessR al ah bl bh).2.1, .int .i64 (Um.stimesR al ah bl bh).1, .int .i64 (Um.stimesR al ah bl bh).2.1, .int .i64 (Um.sbyR al ah bl bh).1, .int .i64 (Um.sbyR al ah bl bh).2.1, .int .i64 (Um.hullR al ah bl bh).1, .int .i64 0, .int .i64 0, .int .i64 0]) rfl; have y7 := hS.p.cell 9 (v := .int .i64 0) rfl; have hS := hS.putP 9 (.int .i64 (Um.hullR al ah bl bh).2.1) (cs' := #[.int .i64 (Um.addR al ah bl bh).1, .int .i64 (Um.addR al ah bl bh).2.1, .int .i64 (Um.lessR al ah bl bh).1, .int .i64 (Um.lessR al ah bl bh).2.1, .int .i64 (Um.stimesR al ah bl bh).1, .int .i64 (Um.stimesR al ah bl bh).2.1, .int .i64 (Um.sbyR al ah bl bh).1, .int .i64 (Um.sbyR al ah bl bh).2.1, .int .i64 (Um.hullR al ah bl bh).1, .int .i64 (Um.hullR al ah bl bh).2.1, .int .i64 0, .int .i64 0]) rfl; have z1 := hS.a.lo; have z2 := hS.a.hi; have z3 := hS.b.lo; have z4 := hS.b.hi)
        | (go_at_call 17; refine (rMeet_any _ _ _ _ _).mono ?_; rintro e v5 ⟨rfl, hb⟩; replace hS := hS.step hb; clear hb z1 z2 z3 z4; have y1 := hS.p.cell 10 (v := .int .i64 0) rfl; have y2 := hS.p.free 10; have y3 := hS.p.cell 11 (v := .int .i64 0) rfl; have y4 := hS.p.free 11; have y5 := hS.f.cell 5 (v := .int .i64 (Um.two al ah bl bh)) rfl; have y6 := hS.f.free 5; have hS := hS.putP 10 (.int .i64 (Um.meetR al ah bl bh).1) (cs' := #[.int .i64 (Um.addR al ah bl bh).1, .int .i64 (Um.addR al ah bl bh).2.1, .int .i64 (Um.lessR al ah bl bh).1, .int .i64 (Um.lessR al ah bl bh).2.1, .int .i64 (Um.stimesR al ah bl bh).1, .int .i64 (Um.stimesR al ah bl bh).2.1, .int .i64 (Um.sbyR al ah bl bh).1, .int .i64 (Um.sbyR al ah bl bh).2.1, .int .i64 (Um.hullR al ah bl bh).1, .int .i64 (Um.hullR al ah bl bh).2.1, .int .i64 (Um.meetR al ah bl bh).1, .int .i64 0]) rfl; have y7 := hS.p.cell 11 (v := .int .i64 0) rfl; have hS := hS.putP 11 (.int .i64 (Um.meetR al ah bl bh).2.1) (cs' := #[.int .i64 (Um.addR al ah bl bh).1, .int .i64 (Um.addR al ah bl bh).2.1, .int .i64 (Um.lessR al ah bl bh).1, .int .i64 (Um.lessR al ah bl bh).2.1, .int .i64 (Um.stimesR al ah bl bh).1, .int .i64 (Um.stimesR al ah bl bh).2.1, .int .i64 (Um.sbyR al ah bl bh).1, .int .i64 (Um.sbyR al ah bl bh).2.1, .int .i64 (Um.hullR al ah bl bh).1, .int .i64 (Um.hullR al ah bl bh).2.1, .int .i64 (Um.meetR al ah bl bh).1, .int .i64 (Um.meetR al ah bl bh).2.1]) rfl; have y8 := hS.f.cell 5 (v := .int .i64 (Um.two al ah bl bh)) rfl; have hS := hS.putF 5 (.int .i64 (Um.meetR al ah bl bh).2.2) (fs' := #[.int .i64 (Um.addR al ah bl bh).2.2, .int .i64 (Um.lessR al ah bl bh).2.2, .int .i64 (Um.stimesR al ah bl bh).2.2, .int .i64 (Um.sbyR al ah bl bh).2.2, .int .i64 (Um.two al ah bl bh), .int .i64 (Um.meetR al ah bl bh).2.2]) rfl; have z1 := hS.a.lo; have z2 := hS.a.hi; have z3 := hS.b.lo; have z4 := hS.b.hi))
      go_meet
      case rel =>
        have e : ∀ R, Um.made R al ah bl bh = R := fun R => by unfold Um.made; rw [if_pos HT.out]
        refine hS.cs ?_ ?_
        · rw [e, e, e, e, e, e]
        · rw [e, e, e, e, e, e, HT.out]; rfl
    · have hf : (Um.two al ah bl bh == 0) = false := by simpa using h
      have HT := hid h
      clear h
      go_wp2
      go_meet
      case rel =>
        have e : ∀ R, Um.made R al ah bl bh = (0, 0, Um.two al ah bl bh) := fun R => by unfold Um.made; rw [if_neg HT.out]
        refine hS.cs ?_ ?_
        · rw [e, e, e, e, e, e]
        · rw [e, e, e, e, e, e]
  case rest =>
    have hS := hcut
    clear hcut
    have z1 := hS.a.lo
    have z2 := hS.a.hi
    have z3 := hS.b.lo
    have z4 := hS.b.hi
    go_wp2_with (first
      | (go_at_call 18; refine (add_any _ _ _ _ _).mono ?_; rintro e u0 ⟨rfl, hb⟩; replace hS := hS.step hb; clear hb z1 z2 z3 z4; have hXl := hS.f.lt; have hX := Sp.new u0 (Um.made (Um.addR al ah bl bh) al ah bl bh).1 (Um.made (Um.addR al ah bl bh) al ah bl bh).2.1; replace hS := hS.alloc (.cells #[.int .i64 (Um.made (Um.addR al ah bl bh) al ah bl bh).1, .int .i64 (Um.made (Um.addR al ah bl bh) al ah bl bh).2.1] 23); have y1 := hS.f.cell 0 (v := .int .i64 (Um.made (Um.addR al ah bl bh) al ah bl bh).2.2) rfl)
      | (go_at_call 19; refine (less_any _ _ _ _ _).mono ?_; rintro e u1 ⟨rfl, hb⟩; replace hS := hS.step hb; replace hX := hX.step hb; clear hb z1 z2 z3 z4 x1 x2 p0 p1 p2 p3 p4 p5 p6 p7 p8 p9 p10 p11; have y1 := hX.lo; have y2 := hX.fl; have y3 := hX.hi; have y4 := hX.fh; replace hS := (hS.far _ 0 (.int .i64 (Um.made (Um.lessR al ah bl bh) al ah bl bh).1) hXl).far _ 1 (.int .i64 (Um.made (Um.lessR al ah bl bh) al ah bl bh).2.1) hXl; replace hX := hX.set (Um.made (Um.lessR al ah bl bh) al ah bl bh).1 (Um.made (Um.lessR al ah bl bh) al ah bl bh).2.1; have y5 := hS.f.cell 1 (v := .int .i64 (Um.made (Um.lessR al ah bl bh) al ah bl bh).2.2) rfl)
      | (go_at_call 20; refine (stimes_any _ _ _ _ _).mono ?_; rintro e u2 ⟨rfl, hb⟩; replace hS := hS.step hb; replace hX := hX.step hb; clear hb z1 z2 z3 z4 x1 x2 p0 p1 p2 p3 p4 p5 p6 p7 p8 p9 p10 p11; have y1 := hX.lo; have y2 := hX.fl; have y3 := hX.hi; have y4 := hX.fh; replace hS := (hS.far _ 0 (.int .i64 (Um.made (Um.stimesR al ah bl bh) al ah bl bh).1) hXl).far _ 1 (.int .i64 (Um.made (Um.stimesR al ah bl bh) al ah bl bh).2.1) hXl; replace hX := hX.set (Um.made (Um.stimesR al ah bl bh) al ah bl bh).1 (Um.made (Um.stimesR al ah bl bh) al ah bl bh).2.1; have y5 := hS.f.cell 2 (v := .int .i64 (Um.made (Um.stimesR al ah bl bh) al ah bl bh).2.2) rfl)
      | (go_at_call 21; refine (sby_any _ _ _ _ _).mono ?_; rintro e u3 ⟨rfl, hb⟩; replace hS := hS.step hb; replace hX := hX.step hb; clear hb z1 z2 z3 z4 x1 x2 p0 p1 p2 p3 p4 p5 p6 p7 p8 p9 p10 p11; have y1 := hX.lo; have y2 := hX.fl; have y3 := hX.hi; have y4 := hX.fh; replace hS := (hS.far _ 0 (.int .i64 (Um.made (Um.sbyR al ah bl bh) al ah bl bh).1) hXl).far _ 1 (.int .i64 (Um.made (Um.sbyR al ah bl bh) al ah bl bh).2.1) hXl; replace hX := hX.set (Um.made (Um.sbyR al ah bl bh) al ah bl bh).1 (Um.made (Um.sbyR al ah bl bh) al ah bl bh).2.1; have y5 := hS.f.cell 3 (v := .int .i64 (Um.made (Um.sbyR al ah bl bh) al ah bl bh).2.2) rfl)
      | (go_at_call 22; refine (hull_any _ _ _ _ _).mono ?_; rintro e u4 ⟨rfl, hb⟩; replace hS := hS.step hb; replace hX := hX.step hb; clear hb z1 z2 z3 z4 x1 x2 p0 p1 p2 p3 p4 p5 p6 p7 p8 p9 p10 p11; have y1 := hX.lo; have y2 := hX.fl; have y3 := hX.hi; have y4 := hX.fh; replace hS := (hS.far _ 0 (.int .i64 (Um.made (Um.hullR al ah bl bh) al ah bl bh).1) hXl).far _ 1 (.int .i64 (Um.made (Um.hullR al ah bl bh) al ah bl bh).2.1) hXl; replace hX := hX.set (Um.made (Um.hullR al ah bl bh) al ah bl bh).1 (Um.made (Um.hullR al ah bl bh) al ah bl bh).2.1; have y5 := hS.f.cell 4 (v := .int .i64 (Um.made (Um.hullR al ah bl bh) al ah bl bh).2.2) rfl)
      | (go_at_call 23; refine (meet_any _ _ _ _ _).mono ?_; rintro e u5 ⟨rfl, hb⟩; replace hS := hS.step hb; replace hX := hX.step hb; clear hb z1 z2 z3 z4 x1 x2 p0 p1 p2 p3 p4 p5 p6 p7 p8 p9 p10 p11; have y1 := hX.lo; have y2 := hX.fl; have y3 := hX.hi; have y4 := hX.fh; replace hS := (hS.far _ 0 (.int .i64 (Um.made (Um.meetR al ah bl bh) al ah bl bh).1) hXl).far _ 1 (.int .i64 (Um.made (Um.meetR al ah bl bh) al ah bl bh).2.1) hXl; replace hX := hX.set (Um.made (Um.meetR al ah bl bh) al ah bl bh).1 (Um.made (Um.meetR al ah bl bh) al ah bl bh).2.1; have y5 := hS.f.cell 5 (v := .int .i64 (Um.made (Um.meetR al ah bl bh) al ah bl bh).2.2) rfl)
      | (go_at_call 9; refine (same_any _ _ _ hS.err).mono ?_; rintro e t ⟨rfl, hb⟩; replace hS := hS.step hb; replace hX := hX.step hb; clear hb; have z1 := hS.a.lo; have z2 := hS.a.hi; have z3 := hS.b.lo; have z4 := hS.b.hi; have x1 := hX.lo; have x2 := hX.hi; have p0 := hS.p.cell 0 (v := .int .i64 (Um.made (Um.addR al ah bl bh) al ah bl bh).1) rfl; have p1 := hS.p.cell 1 (v := .int .i64 (Um.made (Um.addR al ah bl bh) al ah bl bh).2.1) rfl; have p2 := hS.p.cell 2 (v := .int .i64 (Um.made (Um.lessR al ah bl bh) al ah bl bh).1) rfl; have p3 := hS.p.cell 3 (v := .int .i64 (Um.made (Um.lessR al ah bl bh) al ah bl bh).2.1) rfl; have p4 := hS.p.cell 4 (v := .int .i64 (Um.made (Um.stimesR al ah bl bh) al ah bl bh).1) rfl; have p5 := hS.p.cell 5 (v := .int .i64 (Um.made (Um.stimesR al ah bl bh) al ah bl bh).2.1) rfl; have p6 := hS.p.cell 6 (v := .int .i64 (Um.made (Um.sbyR al ah bl bh) al ah bl bh).1) rfl; have p7 := hS.p.cell 7 (v := .int .i64 (Um.made (Um.sbyR al ah bl bh) al ah bl bh).2.1) rfl; have p8 := hS.p.cell 8 (v := .int .i64 (Um.made (Um.hullR al ah bl bh) al ah bl bh).1) rfl; have p9 := hS.p.cell 9 (v := .int .i64 (Um.made (Um.hullR al ah bl bh) al ah bl bh).2.1) rfl; have p10 := hS.p.cell 10 (v := .int .i64 (Um.made (Um.meetR al ah bl bh) al ah bl bh).1) rfl; have p11 := hS.p.cell 11 (v := .int .i64 (Um.made (Um.meetR al ah bl bh) al ah bl bh).2.1) rfl))
    go_returns
    exact ⟨rfl, hS.below⟩
end Go.Proofs.YtfmjndipanlcoaaDoor.STells
