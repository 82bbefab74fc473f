/-
  The walk over 'spanlaw4.FlowNone': for all s, b it returns true.
-/
import Derived.Test.YtmgabhphnafokaaFlow
import Derived.Test.YtmgabhphnafokaaRefSplit
import Derived.Deep.CutRange
namespace Go.Proofs.Ytmgabhphnafokaa.FlNone
set_option linter.unusedSimpArgs false
open Go.RowKit

theorem box_cells (w : World) (v0 v1 : Value) (T : TypeId) : (w.alloc (.cells #[v0, v1] T)).cell? ⟨w.heap.size, 0, none⟩ = some v0 ∧ (w.alloc (.cells #[v0, v1] T)).cell? ⟨w.heap.size, 1, none⟩ = some v1 := ⟨(Blk.new w T #[v0, v1]).cell 0 rfl, (Blk.new w T #[v0, v1]).cell 1 rfl⟩
theorem none_yes {s : List (List Um.Tm)} {p b : List (Int × Int)} (h : Um.readyF s p b = 0) : Um.tubeAll s p b 0 = ([b], 0) := Um.tubeAll_yes (n := 0) (by decide) h rfl
theorem none_not {s : List (List Um.Tm)} {p b : List (Int × Int)} (h : ¬ Um.readyF s p b = 0) : Um.tubeAll s p b 0 = ([], Um.readyF s p b) := Um.tubeAll_not (by decide) h
theorem wide_pos {b : List (Int × Int)} (h : Um.boxF b = 0) : 0 ≤ Um.widthOf b := by
  have := (Um.chk_ok.1 (Um.box_side h (Um.wide_lt (Um.box_len h).1))).2.2
  unfold Um.widthOf
  omega

set_option maxRecDepth 100000 in
set_option maxHeartbeats 8000000 in
theorem walk_not (s : List (List Um.Tm)) (v0 : Value) (p : List (Int × Int)) (v1 : Value) (b : List (Int × Int)) (v : Value) (w : World) (hf : Lf w.heap.size w v0 s) (hp : Ls w.heap.size w v1 p) (hs : Ls w.heap.size w v b) (h : ¬ Um.readyF s p b = 0) :
    Calls Try.prog 9 #[.agg #[v0, v1], v] w fun e w' => e = .returned (.bool true) ∧ Below w.heap.size w w' := by
  have v0 := errV_none
  have q1 := errG
  have q2 := errGn
  have q3 := errE
  have q4 := errN
  obtain ⟨a0, cap0, rfl, -⟩ := (id hf)
  obtain ⟨a1, cap1, rfl, -⟩ := (id hp)
  obtain ⟨a2, cap2, rfl, -⟩ := (id hs)
  have h1 : w.heap.size < (w.alloc (.cells #[.slice a0 s.length cap0, .slice a1 p.length cap1] 50)).heap.size := by simp
  have hBW : Below w.heap.size w (w.alloc (.cells #[.slice a0 s.length cap0, .slice a1 p.length cap1] 50)) := by go_grown
  obtain ⟨c0, c1⟩ := box_cells w (.slice a0 s.length cap0) (.slice a1 p.length cap1) 50
  have hF := Fr.start (w.alloc (.cells #[.slice a0 s.length cap0, .slice a1 p.length cap1] 50))
  have hf2 := hf.step hBW
  have hp2 := hp.step hBW
  have hb2 := hs.step hBW
  have HRU := fun w h1 h2 h3 => hid (flRun_any s (.slice a0 s.length cap0) p (.slice a1 p.length cap1) b (.slice a2 b.length cap2) 0 w h1 h2 h3)
  have HWD := fun w h1 h2 h3 => hid (flWide_any s (.slice a0 s.length cap0) p (.slice a1 p.length cap1) b (.slice a2 b.length cap2) 0 w h1 h2 h3)
  clear hf hp hs
  have y0 := c0
  have y1 := c1
  rw [none_not h] at HRU
  have k : (Um.readyF s p b != 0) = true := by simpa using h
  clear h HWD
  generalize Um.readyF s p b = G at *
  go_enter Try.func9, Try.ntmps9
  go_wp2_with (go_at_call 23; refine (HRU _ (hF.lf hf2) (hF.ls hp2) (hF.ls hb2)).out.mono ?_; rintro e wn ⟨r1, rfl, hl, hb⟩; replace hF := hF.step hb; clear hb; clear HRU y0 y1; have y0 := (hF.below.cell (p := ⟨w.heap.size, 0, none⟩) h1).trans c0; have y1 := (hF.below.cell (p := ⟨w.heap.size, 1, none⟩) h1).trans c1; obtain ⟨s1, d1, rfl, -⟩ := (id hl))
  go_returns
  exact ⟨rfl, hBW.trans (hF.below.mono hBW.size)⟩

set_option maxRecDepth 100000 in
set_option maxHeartbeats 8000000 in
theorem walk_yes (s : List (List Um.Tm)) (v0 : Value) (p : List (Int × Int)) (v1 : Value) (b : List (Int × Int)) (v : Value) (w : World) (hf : Lf w.heap.size w v0 s) (hp : Ls w.heap.size w v1 p) (hs : Ls w.heap.size w v b) (h : Um.readyF s p b = 0) :
    Calls Try.prog 9 #[.agg #[v0, v1], v] w fun e w' => e = .returned (.bool true) ∧ Below w.heap.size w w' := by
  have v0 := errV_none
  have q1 := errG
  have q2 := errGn
  have q3 := errE
  have q4 := errN
  obtain ⟨a0, cap0, rfl, -⟩ := (id hf)
  obtain ⟨a1, cap1, rfl, -⟩ := (id hp)
  obtain ⟨a2, cap2, rfl, -⟩ := (id hs)
  have h1 : w.heap.size < (w.alloc (.cells #[.slice a0 s.length cap0, .slice a1 p.length cap1] 50)).heap.size := by simp
  have hBW : Below w.heap.size w (w.alloc (.cells #[.slice a0 s.length cap0, .slice a1 p.length cap1] 50)) := by go_grown
  obtain ⟨c0, c1⟩ := box_cells w (.slice a0 s.length cap0) (.slice a1 p.length cap1) 50
  have hF := Fr.start (w.alloc (.cells #[.slice a0 s.length cap0, .slice a1 p.length cap1] 50))
  have hf2 := hf.step hBW
  have hp2 := hp.step hBW
  have hb2 := hs.step hBW
  have HRU := fun w h1 h2 h3 => hid (flRun_any s (.slice a0 s.length cap0) p (.slice a1 p.length cap1) b (.slice a2 b.length cap2) 0 w h1 h2 h3)
  have HWD := fun w h1 h2 h3 => hid (flWide_any s (.slice a0 s.length cap0) p (.slice a1 p.length cap1) b (.slice a2 b.length cap2) 0 w h1 h2 h3)
  clear hf hp hs
  have y0 := c0
  have y1 := c1
  have hbx := (Um.ready_ok.1 h).2.1
  unfold Um.widesN at HWD
  rw [none_yes h] at HRU HWD
  have hN := wide_pos hbx
  have HBL : Hid (b.length ≤ 1000) := by have := (Um.box_len hbx).2; show b.length ≤ 1000; omega
  have tN : decide (0 ≤ Um.widthOf b) = true := decide_eq_true hN
  simp only [List.map_cons, List.map_nil] at HWD
  clear h hbx hN
  generalize Um.widthOf b = N at *
  go_enter Try.func9, Try.ntmps9
  go_upto_region 4 with (go_at_call 23; refine (HRU _ (hF.lf hf2) (hF.ls hp2) (hF.ls hb2)).out.mono ?_; rintro e wn ⟨r1, rfl, hl, hb⟩; replace hF := hF.step hb; clear hb; clear HRU y0 y1; have y0 := (hF.below.cell (p := ⟨w.heap.size, 0, none⟩) h1).trans c0; have y1 := (hF.below.cell (p := ⟨w.heap.size, 1, none⟩) h1).trans c1; obtain ⟨b1, o1, c9, rfl, -, m1, q1⟩ := hl.open (by simp); obtain ⟨u, zu0, hu⟩ := q1 0 (by simp); have zu : wn.cell? ⟨b1, o1, none⟩ = some u := zu0; clear zu0 q1 hl; replace hu : Ls wn.heap.size wn u b := hu)
  go_upto_region 5 with (go_at_call 25; refine (HWD _ (hF.lf hf2) (hF.ls hp2) (hF.ls hb2)).out.mono ?_; rintro e wn ⟨r2, rfl, hw, hb⟩; have zu := (hb.cell (p := ⟨b1, o1, none⟩) m1).trans zu; replace hu := hu.step hb; replace hF := hF.step hb; clear hb; clear HWD y0 y1; obtain ⟨b3, o3, c3, rfl, m3, q3⟩ := hw.out (by simp); have z3 : wn.cell? ⟨b3, o3, none⟩ = some (.int .i64 N) := q3 0 (by simp); clear q3 hw)
  obtain ⟨s5, d5, rfl, -⟩ := (id hu)
  go_wp2_with (go_at_call 13; refine (hid (box_same b _ _ _ hu (hF.ls hb2) HBL.out)).out.mono ?_; rintro e wn ⟨rfl, hb⟩; have z3 := (hb.cell (p := ⟨b3, o3, none⟩) m3).trans z3; replace hF := hF.step hb; clear hb)
  go_returns
  exact ⟨rfl, hBW.trans (hF.below.mono hBW.size)⟩

theorem walk (s : List (List Um.Tm)) (v0 : Value) (p : List (Int × Int)) (v1 : Value) (b : List (Int × Int)) (v : Value) (w : World) (hf : Lf w.heap.size w v0 s) (hp : Ls w.heap.size w v1 p) (hs : Ls w.heap.size w v b) :
    Calls Try.prog 9 #[.agg #[v0, v1], v] w fun e w' => e = .returned (.bool true) ∧ Below w.heap.size w w' := by
  by_cases h : Um.readyF s p b = 0
  · exact walk_yes s v0 p v1 b v w hf hp hs h
  · exact walk_not s v0 p v1 b v w hf hp hs h
end Go.Proofs.Ytmgabhphnafokaa.FlNone
