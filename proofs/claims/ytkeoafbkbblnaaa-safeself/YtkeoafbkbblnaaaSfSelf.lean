/-
  The walk over 'spanlaw4.SafeSelf': for all s, b, steps it returns true.
-/
import Derived.Test.YtkeoafbkbblnaaaSafe
import Derived.Test.YtkeoafbkbblnaaaMems2
import Derived.Deep.CutRange
namespace Go.Proofs.Ytkeoafbkbblnaaa.SfSelf
set_option linter.unusedSimpArgs false
open Go.RowKit

theorem self_not : Um.safeF [] [] [] [] 0 = 5 := rfl
theorem Lf.nil (B : Nat) (w : World) : Lf B w (.slice none 0 0) [] := ⟨none, 0, rfl, Nat.le_refl _, .inl rfl⟩

set_option maxRecDepth 100000 in
set_option maxHeartbeats 8000000 in
theorem walk_not (s : List (List Um.Tm)) (v0 : Value) (p : List (Int × Int)) (v1 : Value) (b : List (Int × Int)) (v : Value) (n : Int) (w : World) (hf : Lf w.heap.size w v0 s) (hp : Ls w.heap.size w v1 p) (hs : Ls w.heap.size w v b) (h : ¬ Um.safeF s p b b n = 0) :
    Calls Try.prog 7 #[.agg #[v0, v1], v, .int .i64 n] w fun e w' => e = .returned (.bool true) ∧ Below w.heap.size w w' := by
  have v0 := errV_none
  have q1 := errG
  have q2 := errGn
  have q3 := errE
  have q4 := errN
  obtain ⟨a0, cap0, rfl, -⟩ := (id hf)
  obtain ⟨a1, cap1, rfl, -⟩ := (id hp)
  obtain ⟨a2, cap2, rfl, -⟩ := (id hs)
  have h1 : w.heap.size < (w.alloc (.cells #[.slice a0 s.length cap0, .slice a1 p.length cap1] 25)).heap.size := by simp
  have hBW : Below w.heap.size w (w.alloc (.cells #[.slice a0 s.length cap0, .slice a1 p.length cap1] 25)) := by go_grown
  obtain ⟨c0, c1⟩ := sys_cells w (.slice a0 s.length cap0) (.slice a1 p.length cap1) 25
  have hF := Fr.start (w.alloc (.cells #[.slice a0 s.length cap0, .slice a1 p.length cap1] 25))
  have hf2 := hf.step hBW
  have hp2 := hp.step hBW
  have hb2 := hs.step hBW
  have HC0 := fun w h1 h2 h3 h4 => hid (sfClear_any [] (.slice none 0 0) [] (.slice none 0 0) [] (.slice none 0 0) [] (.slice none 0 0) 0 w h1 h2 h3 h4)
  rw [self_not] at HC0
  have HWH := fun w h1 h2 h3 h4 => hid (sfWhen_any s (.slice a0 s.length cap0) p (.slice a1 p.length cap1) b (.slice a2 b.length cap2) b (.slice a2 b.length cap2) n w h1 h2 h3 h4)
  have HCL := fun w h1 h2 h3 h4 => hid (sfClear_any s (.slice a0 s.length cap0) p (.slice a1 p.length cap1) b (.slice a2 b.length cap2) b (.slice a2 b.length cap2) n w h1 h2 h3 h4)
  clear hf hp hs
  have y0 := c0
  have y1 := c1
  generalize Um.clearB [] [] [] [] 0 = C0 at *
  rw [Um.whenAll_not h] at HWH
  have k : (Um.safeF s p b b n != 0) = true := by simpa using h
  clear h
  generalize Um.clearB s p b b n = C1 at *
  generalize Um.safeF s p b b n = G at *
  go_enter Try.func7, Try.ntmps7
  go_upto_region 4 with (go_at_call 22; refine (HC0 _ (Lf.nil _ _) (Ls.nil _ _) (Ls.nil _ _) (Ls.nil _ _)).out.mono ?_; rintro e wn ⟨rfl, hb⟩; replace hF := hF.step hb; clear hb; clear y0 y1; have y0 := (hF.below.cell (p := ⟨w.heap.size, 0, none⟩) h1).trans c0; have y1 := (hF.below.cell (p := ⟨w.heap.size, 1, none⟩) h1).trans c1; clear HC0)
  go_upto_region 5 with (go_at_call 23; refine (HWH _ (hF.lf hf2) (hF.ls hp2) (hF.ls hb2) (hF.ls hb2)).out.mono ?_; rintro e wn ⟨rfl, hb⟩; replace hF := hF.step hb; clear hb; clear y0 y1; have y0 := (hF.below.cell (p := ⟨w.heap.size, 0, none⟩) h1).trans c0; have y1 := (hF.below.cell (p := ⟨w.heap.size, 1, none⟩) h1).trans c1; clear HWH)
  go_wp2_with (go_at_call 22; refine (HCL _ (hF.lf hf2) (hF.ls hp2) (hF.ls hb2) (hF.ls hb2)).out.mono ?_; rintro e wn ⟨rfl, hb⟩; replace hF := hF.step hb; clear hb; clear y0 y1; have y0 := (hF.below.cell (p := ⟨w.heap.size, 0, none⟩) h1).trans c0; have y1 := (hF.below.cell (p := ⟨w.heap.size, 1, none⟩) h1).trans c1; clear HCL)
  go_returns
  exact ⟨rfl, hBW.trans (hF.below.mono hBW.size)⟩

set_option maxRecDepth 100000 in
set_option maxHeartbeats 8000000 in
theorem walk_yes (s : List (List Um.Tm)) (v0 : Value) (p : List (Int × Int)) (v1 : Value) (b : List (Int × Int)) (v : Value) (n : Int) (w : World) (hf : Lf w.heap.size w v0 s) (hp : Ls w.heap.size w v1 p) (hs : Ls w.heap.size w v b) (h : Um.safeF s p b b n = 0) :
    Calls Try.prog 7 #[.agg #[v0, v1], v, .int .i64 n] w fun e w' => e = .returned (.bool true) ∧ Below w.heap.size w w' := by
  have v0 := errV_none
  have q1 := errG
  have q2 := errGn
  have q3 := errE
  have q4 := errN
  obtain ⟨a0, cap0, rfl, -⟩ := (id hf)
  obtain ⟨a1, cap1, rfl, -⟩ := (id hp)
  obtain ⟨a2, cap2, rfl, -⟩ := (id hs)
  have h1 : w.heap.size < (w.alloc (.cells #[.slice a0 s.length cap0, .slice a1 p.length cap1] 25)).heap.size := by simp
  have hBW : Below w.heap.size w (w.alloc (.cells #[.slice a0 s.length cap0, .slice a1 p.length cap1] 25)) := by go_grown
  obtain ⟨c0, c1⟩ := sys_cells w (.slice a0 s.length cap0) (.slice a1 p.length cap1) 25
  have hF := Fr.start (w.alloc (.cells #[.slice a0 s.length cap0, .slice a1 p.length cap1] 25))
  have hf2 := hf.step hBW
  have hp2 := hp.step hBW
  have hb2 := hs.step hBW
  have HC0 := fun w h1 h2 h3 h4 => hid (sfClear_any [] (.slice none 0 0) [] (.slice none 0 0) [] (.slice none 0 0) [] (.slice none 0 0) 0 w h1 h2 h3 h4)
  rw [self_not] at HC0
  have HWH := fun w h1 h2 h3 h4 => hid (sfWhen_any s (.slice a0 s.length cap0) p (.slice a1 p.length cap1) b (.slice a2 b.length cap2) b (.slice a2 b.length cap2) n w h1 h2 h3 h4)
  have HCL := fun w h1 h2 h3 h4 => hid (sfClear_any s (.slice a0 s.length cap0) p (.slice a1 p.length cap1) b (.slice a2 b.length cap2) b (.slice a2 b.length cap2) n w h1 h2 h3 h4)
  clear hf hp hs
  have y0 := c0
  have y1 := c1
  generalize Um.clearB [] [] [] [] 0 = C0 at *
  rw [Um.clear_yes h, Um.self_when h, h] at HCL
  rw [Um.self_when h] at HWH
  clear h
  go_enter Try.func7, Try.ntmps7
  go_upto_region 4 with (go_at_call 22; refine (HC0 _ (Lf.nil _ _) (Ls.nil _ _) (Ls.nil _ _) (Ls.nil _ _)).out.mono ?_; rintro e wn ⟨rfl, hb⟩; replace hF := hF.step hb; clear hb; clear y0 y1; have y0 := (hF.below.cell (p := ⟨w.heap.size, 0, none⟩) h1).trans c0; have y1 := (hF.below.cell (p := ⟨w.heap.size, 1, none⟩) h1).trans c1; clear HC0)
  go_upto_region 5 with (go_at_call 23; refine (HWH _ (hF.lf hf2) (hF.ls hp2) (hF.ls hb2) (hF.ls hb2)).out.mono ?_; rintro e wn ⟨rfl, hb⟩; replace hF := hF.step hb; clear hb; clear y0 y1; have y0 := (hF.below.cell (p := ⟨w.heap.size, 0, none⟩) h1).trans c0; have y1 := (hF.below.cell (p := ⟨w.heap.size, 1, none⟩) h1).trans c1; clear HWH)
  go_wp2_with (go_at_call 22; refine (HCL _ (hF.lf hf2) (hF.ls hp2) (hF.ls hb2) (hF.ls hb2)).out.mono ?_; rintro e wn ⟨rfl, hb⟩; replace hF := hF.step hb; clear hb; clear y0 y1; have y0 := (hF.below.cell (p := ⟨w.heap.size, 0, none⟩) h1).trans c0; have y1 := (hF.below.cell (p := ⟨w.heap.size, 1, none⟩) h1).trans c1; clear HCL)
  go_returns
  exact ⟨rfl, hBW.trans (hF.below.mono hBW.size)⟩

theorem walk (s : List (List Um.Tm)) (v0 : Value) (p : List (Int × Int)) (v1 : Value) (b : List (Int × Int)) (v : Value) (n : Int) (w : World) (hf : Lf w.heap.size w v0 s) (hp : Ls w.heap.size w v1 p) (hs : Ls w.heap.size w v b) :
    Calls Try.prog 7 #[.agg #[v0, v1], v, .int .i64 n] w fun e w' => e = .returned (.bool true) ∧ Below w.heap.size w w' := by
  by_cases h : Um.safeF s p b b n = 0
  · exact walk_yes s v0 p v1 b v n w hf hp hs h
  · exact walk_not s v0 p v1 b v n w hf hp hs h
end Go.Proofs.Ytkeoafbkbblnaaa.SfSelf
