/-
  The walk over 'spanlaw2.HoldStays': for all s, b, x, push, by it returns true.
-/
import Derived.Test.YtkeoafbkbblnaaaHold
import Derived.Test.YtkeoafbkbblnaaaFlow
import Derived.Test.YtkeoafbkbblnaaaMaths3
import Derived.Test.YtkeoafbkbblnaaaBoxH
import Derived.Test.YtkeoafbkbblnaaaSysLit
import Derived.Test.YtkeoafbkbblnaaaMems
import Derived.LoopTactic
import Derived.Deep.CutRange
namespace Go.Proofs.Ytkeoafbkbblnaaa.HlStays
set_option linter.unusedSimpArgs false
open Go.RowKit

theorem box_cells (w : World) (v0 v1 : Value) (T : TypeId) {b : Nat} (hb : b = w.heap.size) : (w.alloc (.cells #[v0, v1] T)).cell? ⟨b, 0, none⟩ = some v0 ∧ (w.alloc (.cells #[v0, v1] T)).cell? ⟨b, 1, none⟩ = some v1 := by
  subst hb
  exact ⟨(Blk.new w T #[v0, v1]).cell 0 rfl, (Blk.new w T #[v0, v1]).cell 1 rfl⟩
theorem fact : Um.isB [[(500, 1, 0, 0)]] [(-100, 100)] [(-200, 200)] = true ∧ (Um.ofAll [[(500, 1, 0, 0)]] [(-100, 100)] [(-200, 200)]).2 = 0 ∧ Um.isB [[(500, 1, 0, 0)]] [(-100, 100)] [(-100, 100)] = false ∧ (Um.ofAll [[(500, 1, 0, 0)]] [(-100, 100)] [(-100, 100)]).2 = 0 := by decide +kernel
theorem within_yes {a b : List (Int × Int)} (h : Um.boxesF a b = 0) (hw : Um.withinP a b) : withinA a b = true := by
  unfold withinA
  rw [h]
  simp only [decide_true, Bool.true_and]
  exact decide_eq_true hw
theorem has_yes {b : List (Int × Int)} {x : List Int} (h : Um.boxF b = 0) (hl : x.length = b.length) (hx : Um.hasP b x) : Um.hasF b x = 0 ∧ hasA b x = true := by
  have f : Um.hasF b x = 0 := by unfold Um.hasF; rw [if_pos h, if_pos hl]
  refine ⟨f, ?_⟩
  unfold hasA
  rw [f]
  simp only [decide_true, Bool.true_and]
  exact decide_eq_true hx
/-- What grew holds: all that the law asks of it. -/
theorem holds {s : List (List Um.Tm)} {p b : List (Int × Int)} {y : Int} (h : (Um.growAll s p b y 20).2 = 0) :
    Um.isB s p (Um.growAll s p b y 20).1 = true ∧ (Um.ofAll s p (Um.growAll s p b y 20).1).2 = 0 ∧ Um.boxesF b (Um.growAll s p b y 20).1 = 0 ∧ withinA b (Um.growAll s p b y 20).1 = true ∧
    Um.tubeAll s p (Um.growAll s p b y 20).1 6 = (Um.tubes s p (Um.growAll s p b y 20).1 7, 0) ∧
    (∀ i, 1 ≤ i → i < 7 → Um.boxesF ((Um.tubes s p (Um.growAll s p b y 20).1 7)[i]?.getD []) ((Um.tubes s p (Um.growAll s p b y 20).1 7)[i - 1]?.getD []) = 0 ∧ withinA ((Um.tubes s p (Um.growAll s p b y 20).1 7)[i]?.getD []) ((Um.tubes s p (Um.growAll s p b y 20).1 7)[i - 1]?.getD []) = true) ∧
    (∀ {x : List Int} {u : List (List Int)} {k : Nat}, hasA (Um.growAll s p b y 20).1 x = true → (Um.pathAll s p x u).2 = 0 → k < u.length + 1 → Um.hasF (Um.growAll s p b y 20).1 (Um.pathN s p x u k).1 = 0 ∧ hasA (Um.growAll s p b y 20).1 (Um.pathN s p x u k).1 = true) := by
  obtain ⟨hf, e, hz⟩ := Um.growAll_good h
  obtain ⟨⟨hy, -⟩, hr⟩ := Um.growF_ok.1 hf
  obtain ⟨g1, g2, g3, g4, g5⟩ := Um.grow_good hy hr hz
  rw [e]
  generalize (Um.growR s p y (20 : Int).toNat b).1 = c at *
  obtain ⟨hs, hcb, hcl⟩ := Um.ready_ok.1 g1
  have hbb := (Um.ready_ok.1 hr).2.1
  have hof := Um.ofAll_yes g1
  have ht : ∀ k, (Um.tubeN s p c k).2 = 0 := fun k => by
    cases k with
    | zero => rfl
    | succ k => exact (Um.tube_holds g1 g2 g3 k).1
  refine ⟨?_, by rw [hof]; exact g2, Um.boxes_ok.2 ⟨hbb, hcb, g5.symm⟩, within_yes (Um.boxes_ok.2 ⟨hbb, hcb, g5.symm⟩) g4, Um.tubeAll_yes (n := 6) (by decide) g1 (ht 6), fun i h1 h7 => ?_, fun {x u k} hx hp hk => ?_⟩
  · unfold Um.isB
    rw [hof, g2]
    simp only [decide_true, Bool.true_and]
    exact decide_eq_true g3
  · rw [Um.tubes_get h7, Um.tubes_get (show i - 1 < 7 by omega)]
    obtain ⟨j, rfl⟩ : ∃ j, i = j + 1 := ⟨i - 1, by omega⟩
    rw [Nat.add_sub_cancel]
    have r1 := Um.ready_ok.1 (Um.tube_ready g1 (ht (j + 1)))
    have r2 := Um.ready_ok.1 (Um.tube_ready g1 (ht j))
    have hb := Um.boxes_ok.2 ⟨r1.2.1, r2.2.1, by rw [r1.2.2, r2.2.2]⟩
    exact ⟨hb, within_yes hb (Um.tube_holds g1 g2 g3 j).2⟩
  · unfold hasA at hx
    rw [Bool.and_eq_true] at hx
    have hp0 : Um.hasP c x := of_decide_eq_true hx.2
    obtain ⟨q1, q2, q3⟩ := Um.pathAll_good hp
    have hxl := (Um.pathF_ok.1 q1).2.2
    obtain ⟨k1, k2⟩ := Um.path_holds (u := u) g1 g2 g3 hp0 (by omega) (k := k) (Um.path_down q2 (by omega))
    exact has_yes hcb k2 k1

set_option maxRecDepth 100000 in
set_option maxHeartbeats 16000000 in
theorem walk_grow (s : List (List Um.Tm)) (v0 : Value) (p : List (Int × Int)) (v1 : Value) (b : List (Int × Int)) (v : Value) (x : List Int) (t : Value) (u : List (List Int)) (r : Value) (y : Int) (w : World) (hf : Lf w.heap.size w v0 s) (hp : Ls w.heap.size w v1 p) (hs : Ls w.heap.size w v b) (hx : Li w.heap.size w t x) (hu : Ll w.heap.size w r u) (h : ¬ (Um.growAll s p b y 20).2 = 0) :
    Calls Try.prog 5 #[.agg #[v0, v1], v, t, r, .int .i64 y] w fun e w' => e = .returned (.bool true) ∧ Below w.heap.size w w' := by
  have v0 := errV_none
  have q1 := errG
  have q2 := errGn
  have q3 := errE
  have q4 := errN
  have hmx : Try.prog.follows .mixedOrders = true := by kernel_rfl
  obtain ⟨a0, cap0, rfl, -⟩ := (id hf)
  obtain ⟨a1, cap1, rfl, -⟩ := (id hp)
  obtain ⟨a2, cap2, rfl, -⟩ := (id hs)
  obtain ⟨a3, cap3, rfl, -⟩ := (id hx)
  obtain ⟨a4, cap4, rfl, -⟩ := (id hu)
  have h1 : w.heap.size < (w.alloc (.cells #[.slice a0 s.length cap0, .slice a1 p.length cap1] 25)).heap.size := by simp
  have hBW : Below w.heap.size w (w.alloc (.cells #[.slice a0 s.length cap0, .slice a1 p.length cap1] 25)) := by go_grown
  obtain ⟨c0, c1⟩ := box_cells w (.slice a0 s.length cap0) (.slice a1 p.length cap1) 25 rfl
  have hf2 := hf.step hBW
  have hp2 := hp.step hBW
  have hb2 := hs.step hBW
  have hx2 := (hx.keep hBW).wide hBW.size
  have hu2 := hu.step hBW
  have hL : Lf (((((w.alloc (.cells #[.slice a0 s.length cap0, .slice a1 p.length cap1] 25)).alloc (.cells #[.int .i64 500, .int .i64 1, .int .i64 0, .int .i64 0] 29)).alloc (.cells #[.slice (some ⟨w.heap.size + 1, 0, none⟩) 1 1] 30)).alloc (.cells #[.int .i64 (-100), .int .i64 100] 32)).alloc (.cells #[.slice (some ⟨w.heap.size + 1 + 1, 0, none⟩) 1 1, .slice (some ⟨w.heap.size + 1 + 1 + 1, 0, none⟩) 1 1] 25)).heap.size (((((w.alloc (.cells #[.slice a0 s.length cap0, .slice a1 p.length cap1] 25)).alloc (.cells #[.int .i64 500, .int .i64 1, .int .i64 0, .int .i64 0] 29)).alloc (.cells #[.slice (some ⟨w.heap.size + 1, 0, none⟩) 1 1] 30)).alloc (.cells #[.int .i64 (-100), .int .i64 100] 32)).alloc (.cells #[.slice (some ⟨w.heap.size + 1 + 1, 0, none⟩) 1 1, .slice (some ⟨w.heap.size + 1 + 1 + 1, 0, none⟩) 1 1] 25)) (.slice (some ⟨w.heap.size + 1 + 1, 0, none⟩) 1 1) [[(500, 1, 0, 0)]] := ((lit_lf (by simp) (by decide) (lit_lt (500, 1, 0, 0) (by simp) (by decide))).alloc _).alloc _
  have hP : Ls (((((w.alloc (.cells #[.slice a0 s.length cap0, .slice a1 p.length cap1] 25)).alloc (.cells #[.int .i64 500, .int .i64 1, .int .i64 0, .int .i64 0] 29)).alloc (.cells #[.slice (some ⟨w.heap.size + 1, 0, none⟩) 1 1] 30)).alloc (.cells #[.int .i64 (-100), .int .i64 100] 32)).alloc (.cells #[.slice (some ⟨w.heap.size + 1 + 1, 0, none⟩) 1 1, .slice (some ⟨w.heap.size + 1 + 1 + 1, 0, none⟩) 1 1] 25)).heap.size (((((w.alloc (.cells #[.slice a0 s.length cap0, .slice a1 p.length cap1] 25)).alloc (.cells #[.int .i64 500, .int .i64 1, .int .i64 0, .int .i64 0] 29)).alloc (.cells #[.slice (some ⟨w.heap.size + 1, 0, none⟩) 1 1] 30)).alloc (.cells #[.int .i64 (-100), .int .i64 100] 32)).alloc (.cells #[.slice (some ⟨w.heap.size + 1 + 1, 0, none⟩) 1 1, .slice (some ⟨w.heap.size + 1 + 1 + 1, 0, none⟩) 1 1] 25)) (.slice (some ⟨w.heap.size + 1 + 1 + 1, 0, none⟩) 1 1) [(-100, 100)] := (lit_ls (-100) 100 (by simp) (by decide)).alloc _
  have h4 : w.heap.size + 1 + 1 + 1 + 1 < (((((w.alloc (.cells #[.slice a0 s.length cap0, .slice a1 p.length cap1] 25)).alloc (.cells #[.int .i64 500, .int .i64 1, .int .i64 0, .int .i64 0] 29)).alloc (.cells #[.slice (some ⟨w.heap.size + 1, 0, none⟩) 1 1] 30)).alloc (.cells #[.int .i64 (-100), .int .i64 100] 32)).alloc (.cells #[.slice (some ⟨w.heap.size + 1 + 1, 0, none⟩) 1 1, .slice (some ⟨w.heap.size + 1 + 1 + 1, 0, none⟩) 1 1] 25)).heap.size := by simp
  obtain ⟨e0, e1⟩ := box_cells ((((w.alloc (.cells #[.slice a0 s.length cap0, .slice a1 p.length cap1] 25)).alloc (.cells #[.int .i64 500, .int .i64 1, .int .i64 0, .int .i64 0] 29)).alloc (.cells #[.slice (some ⟨w.heap.size + 1, 0, none⟩) 1 1] 30)).alloc (.cells #[.int .i64 (-100), .int .i64 100] 32)) (.slice (some ⟨w.heap.size + 1 + 1, 0, none⟩) 1 1) (.slice (some ⟨w.heap.size + 1 + 1 + 1, 0, none⟩) 1 1) 25 (b := w.heap.size + 1 + 1 + 1 + 1) (by simp)
  have hD := Fr.start (((((w.alloc (.cells #[.slice a0 s.length cap0, .slice a1 p.length cap1] 25)).alloc (.cells #[.int .i64 500, .int .i64 1, .int .i64 0, .int .i64 0] 29)).alloc (.cells #[.slice (some ⟨w.heap.size + 1, 0, none⟩) 1 1] 30)).alloc (.cells #[.int .i64 (-100), .int .i64 100] 32)).alloc (.cells #[.slice (some ⟨w.heap.size + 1 + 1, 0, none⟩) 1 1, .slice (some ⟨w.heap.size + 1 + 1 + 1, 0, none⟩) 1 1] 25))
  have hFD : Fr (w.alloc (.cells #[.slice a0 s.length cap0, .slice a1 p.length cap1] 25)) (((((w.alloc (.cells #[.slice a0 s.length cap0, .slice a1 p.length cap1] 25)).alloc (.cells #[.int .i64 500, .int .i64 1, .int .i64 0, .int .i64 0] 29)).alloc (.cells #[.slice (some ⟨w.heap.size + 1, 0, none⟩) 1 1] 30)).alloc (.cells #[.int .i64 (-100), .int .i64 100] 32)).alloc (.cells #[.slice (some ⟨w.heap.size + 1 + 1, 0, none⟩) 1 1, .slice (some ⟨w.heap.size + 1 + 1 + 1, 0, none⟩) 1 1] 25)) [] := ((((Fr.start (w.alloc (.cells #[.slice a0 s.length cap0, .slice a1 p.length cap1] 25))).alloc _).alloc _).alloc _).alloc _
  obtain ⟨k1, k2, k3, k4⟩ := fact
  have HI0 := fun vq wq h1 h2 h3 => hid (hlIs_any [[(500, 1, 0, 0)]] (.slice (some ⟨w.heap.size + 1 + 1, 0, none⟩) 1 1) [(-100, 100)] (.slice (some ⟨w.heap.size + 1 + 1 + 1, 0, none⟩) 1 1) [(-200, 200)] vq wq h1 h2 h3)
  rw [k1, k2] at HI0
  have HI1 := fun vq wq h1 h2 h3 => hid (hlIs_any [[(500, 1, 0, 0)]] (.slice (some ⟨w.heap.size + 1 + 1, 0, none⟩) 1 1) [(-100, 100)] (.slice (some ⟨w.heap.size + 1 + 1 + 1, 0, none⟩) 1 1) [(-100, 100)] vq wq h1 h2 h3)
  rw [k3, k4] at HI1
  clear k1 k2 k3 k4
  have HGR := fun w h1 h2 h3 => hid (hlGrow_any s (.slice a0 s.length cap0) p (.slice a1 p.length cap1) b (.slice a2 b.length cap2) y 20 w h1 h2 h3)
  have d0 := e0
  have d1 := e1
  clear hf hp hs hx hu
  have k : ((Um.growAll s p b y 20).2 != 0) = true := by simpa using h
  clear h
  generalize Um.growAll s p b y 20 = GA at *
  go_enter Try.func5, Try.ntmps5
  go_upto_region 3 with (go_at_call 16; refine (HI0 _ _ (hL.alloc _) (hP.alloc _) (lit_ls (-200) 200 (by simp) (by decide))).out.mono ?_; rintro e wa ⟨rfl, hb⟩; replace hL := (hL.alloc _).step hb; replace hP := (hP.alloc _).step hb; replace hD := (hD.alloc _).step hb; clear hb HI0 d0 d1; have d0 := (hD.below.cell (p := ⟨w.heap.size + 1 + 1 + 1 + 1, 0, none⟩) h4).trans e0; have d1 := (hD.below.cell (p := ⟨w.heap.size + 1 + 1 + 1 + 1, 1, none⟩) h4).trans e1)
  go_upto_region 6 with (go_at_call 16; refine (HI1 _ _ (hL.alloc _) (hP.alloc _) (lit_ls (-100) 100 (by simp) (by decide))).out.mono ?_; rintro e wn ⟨rfl, hb⟩; replace hD := (hD.alloc _).step hb; clear hb HI1 hL hP d0 d1)
  have hF : Fr (w.alloc (.cells #[.slice a0 s.length cap0, .slice a1 p.length cap1] 25)) wn [] := ⟨hFD.below.trans (hD.below.mono hFD.size), by simp, List.Pairwise.nil⟩
  clear hFD hD e0 e1 h4
  have y0 := (hF.below.cell (p := ⟨w.heap.size, 0, none⟩) h1).trans c0
  have y1 := (hF.below.cell (p := ⟨w.heap.size, 1, none⟩) h1).trans c1
  go_wp2_with (go_at_call 17; refine (HGR _ (hF.lf hf2) (hF.ls hp2) (hF.ls hb2)).out.mono ?_; rintro e wn ⟨r1, rfl, hc, hb⟩; replace hF := hF.step hb; clear hb; clear y0 y1; have y0 := (hF.below.cell (p := ⟨w.heap.size, 0, none⟩) h1).trans c0; have y1 := (hF.below.cell (p := ⟨w.heap.size, 1, none⟩) h1).trans c1; obtain ⟨a9, c9, rfl, -⟩ := (id hc); clear HGR)
  go_returns
  exact ⟨rfl, hBW.trans (hF.below.mono hBW.size)⟩

set_option maxRecDepth 100000 in
set_option maxHeartbeats 16000000 in
theorem walk_yes (s : List (List Um.Tm)) (v0 : Value) (p : List (Int × Int)) (v1 : Value) (b : List (Int × Int)) (v : Value) (x : List Int) (t : Value) (u : List (List Int)) (r : Value) (y : Int) (w : World) (hf : Lf w.heap.size w v0 s) (hp : Ls w.heap.size w v1 p) (hs : Ls w.heap.size w v b) (hx : Li w.heap.size w t x) (hu : Ll w.heap.size w r u) (h : (Um.growAll s p b y 20).2 = 0) :
    Calls Try.prog 5 #[.agg #[v0, v1], v, t, r, .int .i64 y] w fun e w' => e = .returned (.bool true) ∧ Below w.heap.size w w' := by
  have v0 := errV_none
  have q1 := errG
  have q2 := errGn
  have q3 := errE
  have q4 := errN
  have hmx : Try.prog.follows .mixedOrders = true := by kernel_rfl
  obtain ⟨a0, cap0, rfl, -⟩ := (id hf)
  obtain ⟨a1, cap1, rfl, -⟩ := (id hp)
  obtain ⟨a2, cap2, rfl, -⟩ := (id hs)
  obtain ⟨a3, cap3, rfl, -⟩ := (id hx)
  obtain ⟨a4, cap4, rfl, -⟩ := (id hu)
  have h1 : w.heap.size < (w.alloc (.cells #[.slice a0 s.length cap0, .slice a1 p.length cap1] 25)).heap.size := by simp
  have hBW : Below w.heap.size w (w.alloc (.cells #[.slice a0 s.length cap0, .slice a1 p.length cap1] 25)) := by go_grown
  obtain ⟨c0, c1⟩ := box_cells w (.slice a0 s.length cap0) (.slice a1 p.length cap1) 25 rfl
  have hf2 := hf.step hBW
  have hp2 := hp.step hBW
  have hb2 := hs.step hBW
  have hx2 := (hx.keep hBW).wide hBW.size
  have hu2 := hu.step hBW
  have hL : Lf (((((w.alloc (.cells #[.slice a0 s.length cap0, .slice a1 p.length cap1] 25)).alloc (.cells #[.int .i64 500, .int .i64 1, .int .i64 0, .int .i64 0] 29)).alloc (.cells #[.slice (some ⟨w.heap.size + 1, 0, none⟩) 1 1] 30)).alloc (.cells #[.int .i64 (-100), .int .i64 100] 32)).alloc (.cells #[.slice (some ⟨w.heap.size + 1 + 1, 0, none⟩) 1 1, .slice (some ⟨w.heap.size + 1 + 1 + 1, 0, none⟩) 1 1] 25)).heap.size (((((w.alloc (.cells #[.slice a0 s.length cap0, .slice a1 p.length cap1] 25)).alloc (.cells #[.int .i64 500, .int .i64 1, .int .i64 0, .int .i64 0] 29)).alloc (.cells #[.slice (some ⟨w.heap.size + 1, 0, none⟩) 1 1] 30)).alloc (.cells #[.int .i64 (-100), .int .i64 100] 32)).alloc (.cells #[.slice (some ⟨w.heap.size + 1 + 1, 0, none⟩) 1 1, .slice (some ⟨w.heap.size + 1 + 1 + 1, 0, none⟩) 1 1] 25)) (.slice (some ⟨w.heap.size + 1 + 1, 0, none⟩) 1 1) [[(500, 1, 0, 0)]] := ((lit_lf (by simp) (by decide) (lit_lt (500, 1, 0, 0) (by simp) (by decide))).alloc _).alloc _
  have hP : Ls (((((w.alloc (.cells #[.slice a0 s.length cap0, .slice a1 p.length cap1] 25)).alloc (.cells #[.int .i64 500, .int .i64 1, .int .i64 0, .int .i64 0] 29)).alloc (.cells #[.slice (some ⟨w.heap.size + 1, 0, none⟩) 1 1] 30)).alloc (.cells #[.int .i64 (-100), .int .i64 100] 32)).alloc (.cells #[.slice (some ⟨w.heap.size + 1 + 1, 0, none⟩) 1 1, .slice (some ⟨w.heap.size + 1 + 1 + 1, 0, none⟩) 1 1] 25)).heap.size (((((w.alloc (.cells #[.slice a0 s.length cap0, .slice a1 p.length cap1] 25)).alloc (.cells #[.int .i64 500, .int .i64 1, .int .i64 0, .int .i64 0] 29)).alloc (.cells #[.slice (some ⟨w.heap.size + 1, 0, none⟩) 1 1] 30)).alloc (.cells #[.int .i64 (-100), .int .i64 100] 32)).alloc (.cells #[.slice (some ⟨w.heap.size + 1 + 1, 0, none⟩) 1 1, .slice (some ⟨w.heap.size + 1 + 1 + 1, 0, none⟩) 1 1] 25)) (.slice (some ⟨w.heap.size + 1 + 1 + 1, 0, none⟩) 1 1) [(-100, 100)] := (lit_ls (-100) 100 (by simp) (by decide)).alloc _
  have h4 : w.heap.size + 1 + 1 + 1 + 1 < (((((w.alloc (.cells #[.slice a0 s.length cap0, .slice a1 p.length cap1] 25)).alloc (.cells #[.int .i64 500, .int .i64 1, .int .i64 0, .int .i64 0] 29)).alloc (.cells #[.slice (some ⟨w.heap.size + 1, 0, none⟩) 1 1] 30)).alloc (.cells #[.int .i64 (-100), .int .i64 100] 32)).alloc (.cells #[.slice (some ⟨w.heap.size + 1 + 1, 0, none⟩) 1 1, .slice (some ⟨w.heap.size + 1 + 1 + 1, 0, none⟩) 1 1] 25)).heap.size := by simp
  obtain ⟨e0, e1⟩ := box_cells ((((w.alloc (.cells #[.slice a0 s.length cap0, .slice a1 p.length cap1] 25)).alloc (.cells #[.int .i64 500, .int .i64 1, .int .i64 0, .int .i64 0] 29)).alloc (.cells #[.slice (some ⟨w.heap.size + 1, 0, none⟩) 1 1] 30)).alloc (.cells #[.int .i64 (-100), .int .i64 100] 32)) (.slice (some ⟨w.heap.size + 1 + 1, 0, none⟩) 1 1) (.slice (some ⟨w.heap.size + 1 + 1 + 1, 0, none⟩) 1 1) 25 (b := w.heap.size + 1 + 1 + 1 + 1) (by simp)
  have hD := Fr.start (((((w.alloc (.cells #[.slice a0 s.length cap0, .slice a1 p.length cap1] 25)).alloc (.cells #[.int .i64 500, .int .i64 1, .int .i64 0, .int .i64 0] 29)).alloc (.cells #[.slice (some ⟨w.heap.size + 1, 0, none⟩) 1 1] 30)).alloc (.cells #[.int .i64 (-100), .int .i64 100] 32)).alloc (.cells #[.slice (some ⟨w.heap.size + 1 + 1, 0, none⟩) 1 1, .slice (some ⟨w.heap.size + 1 + 1 + 1, 0, none⟩) 1 1] 25))
  have hFD : Fr (w.alloc (.cells #[.slice a0 s.length cap0, .slice a1 p.length cap1] 25)) (((((w.alloc (.cells #[.slice a0 s.length cap0, .slice a1 p.length cap1] 25)).alloc (.cells #[.int .i64 500, .int .i64 1, .int .i64 0, .int .i64 0] 29)).alloc (.cells #[.slice (some ⟨w.heap.size + 1, 0, none⟩) 1 1] 30)).alloc (.cells #[.int .i64 (-100), .int .i64 100] 32)).alloc (.cells #[.slice (some ⟨w.heap.size + 1 + 1, 0, none⟩) 1 1, .slice (some ⟨w.heap.size + 1 + 1 + 1, 0, none⟩) 1 1] 25)) [] := ((((Fr.start (w.alloc (.cells #[.slice a0 s.length cap0, .slice a1 p.length cap1] 25))).alloc _).alloc _).alloc _).alloc _
  obtain ⟨k1, k2, k3, k4⟩ := fact
  have HI0 := fun vq wq h1 h2 h3 => hid (hlIs_any [[(500, 1, 0, 0)]] (.slice (some ⟨w.heap.size + 1 + 1, 0, none⟩) 1 1) [(-100, 100)] (.slice (some ⟨w.heap.size + 1 + 1 + 1, 0, none⟩) 1 1) [(-200, 200)] vq wq h1 h2 h3)
  rw [k1, k2] at HI0
  have HI1 := fun vq wq h1 h2 h3 => hid (hlIs_any [[(500, 1, 0, 0)]] (.slice (some ⟨w.heap.size + 1 + 1, 0, none⟩) 1 1) [(-100, 100)] (.slice (some ⟨w.heap.size + 1 + 1 + 1, 0, none⟩) 1 1) [(-100, 100)] vq wq h1 h2 h3)
  rw [k3, k4] at HI1
  clear k1 k2 k3 k4
  have HGR := fun w h1 h2 h3 => hid (hlGrow_any s (.slice a0 s.length cap0) p (.slice a1 p.length cap1) b (.slice a2 b.length cap2) y 20 w h1 h2 h3)
  have d0 := e0
  have d1 := e1
  clear hf hp hs hx hu
  have k : ((Um.growAll s p b y 20).2 != 0) = false := by simpa using h
  obtain ⟨j1, j2, j3, j4, j5, j6, j7⟩ := holds h
  have HJ7 := hid (fun x u k h1 h2 h3 => j7 (x := x) (u := u) (k := k) h1 h2 h3)
  have HIC := fun v w h1 h2 h3 => hid (hlIs_any s (.slice a0 s.length cap0) p (.slice a1 p.length cap1) (Um.growAll s p b y 20).1 v w h1 h2 h3)
  rw [j1, j2] at HIC
  have HWC := fun v w h1 h2 => hid (bwithin_any b (.slice a2 b.length cap2) (Um.growAll s p b y 20).1 v w h1 h2)
  rw [j3, j4] at HWC
  have HRU := fun v w h1 h2 h3 => hid (flRun_any s (.slice a0 s.length cap0) p (.slice a1 p.length cap1) (Um.growAll s p b y 20).1 v 6 w h1 h2 h3)
  rw [j5] at HRU
  have HPA := fun w h1 h2 h3 h4 => hid (flPath_any s (.slice a0 s.length cap0) p (.slice a1 p.length cap1) x (.slice a3 x.length cap3) u (.slice a4 u.length cap4) w h1 h2 h3 h4)
  have HHA := fun v w h1 h2 => hid (bhas_any (Um.growAll s p b y 20).1 v x (.slice a3 x.length cap3) w h1 h2)
  obtain ⟨TT, hTT⟩ : ∃ TT, TT = Um.tubes s p (Um.growAll s p b y 20).1 7 := ⟨_, rfl⟩
  have lT : TT.length = 7 := by rw [hTT, Um.tubes_length]
  rw [← hTT] at HRU j6
  have HJ6 := hid j6
  have HT0 : Hid (TT ≠ []) := hid (by rintro rfl; simp at lT)
  have HLT := hid lT
  simp only [lT] at HRU
  clear h j1 j2 j3 j4 j5 j6 j7 hTT lT
  generalize Um.growAll s p b y 20 = GA at *
  go_enter Try.func5, Try.ntmps5
  go_upto_region 3 with (go_at_call 16; refine (HI0 _ _ (hL.alloc _) (hP.alloc _) (lit_ls (-200) 200 (by simp) (by decide))).out.mono ?_; rintro e wa ⟨rfl, hb⟩; replace hL := (hL.alloc _).step hb; replace hP := (hP.alloc _).step hb; replace hD := (hD.alloc _).step hb; clear hb HI0 d0 d1; have d0 := (hD.below.cell (p := ⟨w.heap.size + 1 + 1 + 1 + 1, 0, none⟩) h4).trans e0; have d1 := (hD.below.cell (p := ⟨w.heap.size + 1 + 1 + 1 + 1, 1, none⟩) h4).trans e1)
  go_upto_region 6 with (go_at_call 16; refine (HI1 _ _ (hL.alloc _) (hP.alloc _) (lit_ls (-100) 100 (by simp) (by decide))).out.mono ?_; rintro e wn ⟨rfl, hb⟩; replace hD := (hD.alloc _).step hb; clear hb HI1 hL hP d0 d1)
  have hF : Fr (w.alloc (.cells #[.slice a0 s.length cap0, .slice a1 p.length cap1] 25)) wn [] := ⟨hFD.below.trans (hD.below.mono hFD.size), by simp, List.Pairwise.nil⟩
  clear hFD hD e0 e1 h4
  have y0 := (hF.below.cell (p := ⟨w.heap.size, 0, none⟩) h1).trans c0
  have y1 := (hF.below.cell (p := ⟨w.heap.size, 1, none⟩) h1).trans c1
  go_upto_region 9 with (go_at_call 17; refine (HGR _ (hF.lf hf2) (hF.ls hp2) (hF.ls hb2)).out.mono ?_; rintro e wn ⟨r1, rfl, hc, hb⟩; replace hF := hF.step hb; clear hb; clear y0 y1; have y0 := (hF.below.cell (p := ⟨w.heap.size, 0, none⟩) h1).trans c0; have y1 := (hF.below.cell (p := ⟨w.heap.size, 1, none⟩) h1).trans c1; obtain ⟨a9, c9, rfl, -⟩ := (id hc); clear HGR)
  go_upto_region 10 with (go_at_call 16; refine (HIC _ _ (hF.lf hf2) (hF.ls hp2) hc).out.mono ?_; rintro e wn ⟨rfl, hb⟩; replace hc := hc.step hb; replace hF := hF.step hb; clear hb; clear y0 y1; have y0 := (hF.below.cell (p := ⟨w.heap.size, 0, none⟩) h1).trans c0; have y1 := (hF.below.cell (p := ⟨w.heap.size, 1, none⟩) h1).trans c1; clear HIC)
  go_upto_region 11 with (go_at_call 11; refine (HWC _ _ (hF.ls hb2) hc).out.mono ?_; rintro e wn ⟨rfl, hb⟩; replace hc := hc.step hb; replace hF := hF.step hb; clear hb; clear y0 y1; have y0 := (hF.below.cell (p := ⟨w.heap.size, 0, none⟩) h1).trans c0; have y1 := (hF.below.cell (p := ⟨w.heap.size, 1, none⟩) h1).trans c1; clear HWC)
  go_upto_region 12 with (go_at_call 18; refine (HRU _ _ (hF.lf hf2) (hF.ls hp2) hc).out.mono ?_; rintro e wn ⟨r2, rfl, htb, hb⟩; replace hc := hc.step hb; replace hF := hF.step hb; clear hb; clear y0 y1; have y0 := (hF.below.cell (p := ⟨w.heap.size, 0, none⟩) h1).trans c0; have y1 := (hF.below.cell (p := ⟨w.heap.size, 1, none⟩) h1).trans c1; obtain ⟨b6, o6, c6, rfl, -, m6', -⟩ := htb.open HT0.out; clear HRU m6')
  obtain ⟨_, _, _, e6', -, m6, n6⟩ := htb.open HT0.out
  cases e6'
  have N6 := hid n6
  have HFX := hid hF
  have HCX := hid hc
  have k7 : ((TT.length : Int) != 7) = false := by rw [HLT.out]; rfl
  have l7 : (TT.length : Int) = 7 := by rw [HLT.out]; rfl
  have L7 := hid l7
  clear n6 htb hF hc y0 y1 HT0 k l7
  have hG := Fr.start wn
  go_wp2
  go_loopw [24] (fun i wq => ∃ k : Nat, k + 1 ≤ 7 ∧ i = .int .i64 ((k : Int) + 1) ∧ Fr wn wq []) (fun i _ => 7 - (intOf i).toNat)
  case atStart => exact ⟨0, by decide, rfl, hG⟩
  case round =>
    clear hG
    obtain ⟨k, hk, rfl, hG⟩ := hrel
    by_cases hkl : k + 1 < 7
    · have hkk : (k : Int) + 1 < (TT.length : Int) := by rw [L7.out]; omega
      have hkq : (k : Int) < (TT.length : Int) := by rw [L7.out]; omega
      have hkd : decide ((k : Int) + 1 < (TT.length : Int)) = true := decide_eq_true hkk
      have hsub : IntKind.i64.wrap (k : Int) = (k : Int) := by rw [IntKind.wrap_i64]; omega
      obtain ⟨x5, p5, e5⟩ := N6.out k (by have := HLT.out; omega)
      obtain ⟨x6, p6, e6⟩ := N6.out (k + 1) (by have := HLT.out; omega)
      have y5 := (hG.below.cell (p := ⟨b6, o6 + k, none⟩) m6).trans p5
      have y6 := (hG.below.cell (p := ⟨b6, o6 + (k + 1), none⟩) m6).trans p6
      have hk6 : b6 < wr.heap.size := Nat.lt_of_lt_of_le m6 hG.size
      replace e5 := (e5.keep hG.below).wide hG.size
      replace e6 := (e6.keep hG.below).wide hG.size
      have HS := fun w h1 h2 => hid (bwithin_any (TT[k + 1]?.getD []) x6 (TT[k]?.getD []) x5 w h1 h2)
      have q := HJ6.out (k + 1) (by omega) hkl
      rw [Nat.add_sub_cancel] at q
      rw [q.1, q.2] at HS
      clear N6 HJ6 HJ7 p5 p6 q HPA HHA
      generalize TT[k]?.getD [] = pk at *
      generalize TT[k + 1]?.getD [] = tk at *
      go_wp2
      obtain ⟨Inv, hInv⟩ : ∃ Inv : Array Bool → Act → World → Prop, ∀ listed aq W', Inv listed aq W' ↔ (∃ v123 v124 v125 v126 v127 v128 v129 v130 v131 v132 v122 v133 v134 v25 v26 : Value, aq = { tmps := #[Value.agg #[Value.slice a0 s.length cap0, Value.slice a1 p.length cap1], Value.slice a2 b.length cap2, Value.slice a3 x.length cap3, Value.slice a4 u.length cap4, Value.int IntKind.i64 y, Value.pointer (some { block := w.heap.size, off := 0 }), undef, undef, undef, undef, u10, Value.pointer (some { block := w.heap.size + 1 + 1 + 1 + 1, off := 0 }), Value.bool true, Value.nilIface, Value.bool false, Value.nilIface, Value.slice a9 GA.fst.length c9, errV GA.snd, Value.bool true, Value.nilIface, Value.bool true, Value.nilIface, Value.slice (some { block := b6, off := o6 }) TT.length c6, Value.nilIface, Value.int IntKind.i64 (↑k + 1), v25, v26, undef, undef, undef, undef, undef, Value.agg #[Value.int IntKind.i64 1, Value.int IntKind.i64 0, Value.int IntKind.i64 0], Value.agg #[Value.int IntKind.i64 500, Value.int IntKind.i64 1, Value.int IntKind.i64 0, Value.int IntKind.i64 0], Value.slice (some { block := w.heap.size + 1, off := 0 }) 1 1, Value.slice (some { block := w.heap.size + 1 + 1, off := 0 }) 1 1, Value.agg #[Value.int IntKind.i64 (-100), Value.int IntKind.i64 100], Value.slice (some { block := w.heap.size + 1 + 1 + 1, off := 0 }) 1 1, Value.agg #[Value.slice (some { block := w.heap.size + 1 + 1, off := 0 }) 1 1, Value.slice (some { block := w.heap.size + 1 + 1 + 1, off := 0 }) 1 1], Value.tuple #[Value.bool true, Value.nilIface], Value.agg #[Value.slice (some { block := w.heap.size + 1 + 1, off := 0 }) 1 1, Value.slice (some { block := w.heap.size + 1 + 1 + 1, off := 0 }) 1 1], Value.agg #[Value.int IntKind.i64 (-200), Value.int IntKind.i64 200], Value.slice (some { block := w.heap.size + 1 + 1 + 1 + 1 + 1, off := 0 }) 1 1, Value.tuple #[Value.bool true, Value.nilIface], Value.bool true, Value.nilIface, Value.tuple #[Value.bool false, Value.nilIface], Value.agg #[Value.slice (some { block := w.heap.size + 1 + 1, off := 0 }) 1 1, Value.slice (some { block := w.heap.size + 1 + 1 + 1, off := 0 }) 1 1], Value.agg #[Value.int IntKind.i64 (-100), Value.int IntKind.i64 100], Value.slice (some { block := wa.heap.size, off := 0 }) 1 1, Value.tuple #[Value.bool false, Value.nilIface], Value.bool false, Value.nilIface, Value.nilIface, Value.bool false, Value.bool false, Value.nilIface, Value.bool false, Value.bool false, Value.bool false, Value.bool true, Value.bool false, Value.bool false, Value.bool false, Value.bool false, Value.bool false, Value.tuple #[Value.slice a9 GA.fst.length c9, errV GA.snd], Value.agg #[Value.slice a0 s.length cap0, Value.slice a1 p.length cap1], Value.slice a2 b.length cap2, Value.int IntKind.i64 y, Value.tuple #[Value.slice a9 GA.fst.length c9, errV GA.snd], Value.slice a9 GA.fst.length c9, errV GA.snd, errV GA.snd, Value.bool false, Value.tuple #[Value.bool true, Value.nilIface], Value.agg #[Value.slice a0 s.length cap0, Value.slice a1 p.length cap1], Value.slice a9 GA.fst.length c9, Value.tuple #[Value.bool true, Value.nilIface], Value.bool true, Value.nilIface, Value.tuple #[Value.bool true, Value.nilIface], Value.slice a2 b.length cap2, Value.slice a9 GA.fst.length c9, Value.tuple #[Value.bool true, Value.nilIface], Value.bool true, Value.nilIface, Value.tuple #[Value.slice (some { block := b6, off := o6 }) TT.length c6, Value.nilIface], Value.agg #[Value.slice a0 s.length cap0, Value.slice a1 p.length cap1], Value.slice a9 GA.fst.length c9, Value.tuple #[Value.slice (some { block := b6, off := o6 }) TT.length c6, Value.nilIface], Value.slice (some { block := b6, off := o6 }) TT.length c6, Value.nilIface, Value.nilIface, Value.bool false, Value.bool false, Value.nilIface, Value.bool false, Value.bool false, Value.bool false, Value.nilIface, Value.bool false, Value.bool false, Value.bool false, Value.bool true, Value.bool false, Value.bool false, Value.bool false, Value.bool true, Value.bool false, Value.bool false, Value.bool false, Value.slice (some { block := b6, off := o6 }) TT.length c6, Value.int IntKind.i64 ↑TT.length, Value.bool false, Value.bool false, Value.int IntKind.i64 (↑k + 1), Value.slice (some { block := b6, off := o6 }) TT.length c6, Value.int IntKind.i64 ↑TT.length, Value.bool true, u120, u121, v122, v123, v124, v125, v126, v127, v128, v129, v130, v131, v132, v133, v134, u135, u136, u137, u138, u139, u140, undef, undef, undef, undef, undef, undef, undef, undef, undef, undef, undef, undef, undef, undef, undef, undef, undef, undef, undef, undef, undef, undef, undef, undef, undef, undef, undef, undef, undef, undef, undef, undef, undef, undef, undef, undef, undef, undef, undef, undef, undef, undef], defers := [] } ∧ Below (wr).heap.size (wr) W' ∧ (listed.getD 0 false = true → v123 = Value.slice (some { block := b6, off := o6 }) TT.length c6) ∧ (listed.getD 1 false = true → v124 = Value.int IntKind.i64 (↑k + 1)) ∧ (listed.getD 2 false = true → v125 = .pointer (some ⟨b6, o6 + (k + 1), none⟩)) ∧ (listed.getD 3 false = true → v126 = x6) ∧ (listed.getD 4 false = true → v127 = Value.slice (some { block := b6, off := o6 }) TT.length c6) ∧ (listed.getD 5 false = true → v128 = Value.int IntKind.i64 (↑k + 1)) ∧ (listed.getD 6 false = true → v129 = (.int .i64 (k : Nat))) ∧ (listed.getD 7 false = true → v130 = .pointer (some ⟨b6, o6 + k, none⟩)) ∧ (listed.getD 8 false = true → v131 = x5) ∧ (listed.getD 9 false = true → v132 = (.tuple #[.bool true, errV 0])) ∧ (listed.getD 10 false = true → v122 = (.tuple #[.bool true, errV 0])) ∧ (listed.getD 11 false = true → v133 = .bool true) ∧ (listed.getD 12 false = true → v134 = errV 0) ∧ (listed.getD 13 false = true → v25 = .bool true) ∧ (listed.getD 14 false = true → v26 = errV 0)) := ⟨_, fun _ _ _ => Iff.rfl⟩
      have HI := hid hInv
      clear hInv
      refine Free.region hmx (by kernel_rfl) Inv ?s1 ?s2 ?s3
      case s1 =>
        exact (HI.out _ _ _).2 ⟨u123, u124, u125, u126, u127, u128, u129, u130, u131, u132, u122, u133, u134, u25, u26, rfl, (Below.refl _ _).drew, Free.not_yet, Free.not_yet, Free.not_yet, Free.not_yet, Free.not_yet, Free.not_yet, Free.not_yet, Free.not_yet, Free.not_yet, Free.not_yet, Free.not_yet, Free.not_yet, Free.not_yet, Free.not_yet, Free.not_yet⟩
      case s2 =>
        intro i listed aq W1 hix hne hnl hsz hv
        obtain ⟨v123, v124, v125, v126, v127, v128, v129, v130, v131, v132, v122, v133, v134, v25, v26, rfl, hW, l0, l1, l2, l3, l4, l5, l6, l7, l8, l9, l10, l11, l12, l13, l14⟩ := (HI.out _ _ _).1 hv
        clear hv
        replace hix : i < 15 := hix
        replace hsz : listed.size = 15 := hsz
        rcases (by omega : i = 0 ∨ i = 1 ∨ i = 2 ∨ i = 3 ∨ i = 4 ∨ i = 5 ∨ i = 6 ∨ i = 7 ∨ i = 8 ∨ i = 9 ∨ i = 10 ∨ i = 11 ∨ i = 12 ∨ i = 13 ∨ i = 14) with rfl | rfl | rfl | rfl | rfl | rfl | rfl | rfl | rfl | rfl | rfl | rfl | rfl | rfl | rfl
        · refine Free.op rfl rfl (fun K hK => ?_)
          go_simp
          exact hK _ _ ((HI.out _ _ _).2 ⟨_, v124, v125, v126, v127, v128, v129, v130, v131, v132, v122, v133, v134, v25, v26, rfl, hW, fun _ => rfl, Free.of_set (by decide) l1, Free.of_set (by decide) l2, Free.of_set (by decide) l3, Free.of_set (by decide) l4, Free.of_set (by decide) l5, Free.of_set (by decide) l6, Free.of_set (by decide) l7, Free.of_set (by decide) l8, Free.of_set (by decide) l9, Free.of_set (by decide) l10, Free.of_set (by decide) l11, Free.of_set (by decide) l12, Free.of_set (by decide) l13, Free.of_set (by decide) l14⟩)
        · refine Free.op rfl rfl (fun K hK => ?_)
          go_simp
          exact hK _ _ ((HI.out _ _ _).2 ⟨v123, _, v125, v126, v127, v128, v129, v130, v131, v132, v122, v133, v134, v25, v26, rfl, hW, Free.of_set (by decide) l0, fun _ => rfl, Free.of_set (by decide) l2, Free.of_set (by decide) l3, Free.of_set (by decide) l4, Free.of_set (by decide) l5, Free.of_set (by decide) l6, Free.of_set (by decide) l7, Free.of_set (by decide) l8, Free.of_set (by decide) l9, Free.of_set (by decide) l10, Free.of_set (by decide) l11, Free.of_set (by decide) l12, Free.of_set (by decide) l13, Free.of_set (by decide) l14⟩)
        · refine Free.op rfl rfl (fun K hK => ?_)
          obtain rfl := l0 (hne 0 (by kernel_rfl))
          obtain rfl := l1 (hne 1 (by kernel_rfl))
          go_simp
          exact hK _ _ ((HI.out _ _ _).2 ⟨_, _, _, v126, v127, v128, v129, v130, v131, v132, v122, v133, v134, v25, v26, rfl, hW, fun _ => rfl, fun _ => rfl, fun _ => rfl, Free.of_set (by decide) l3, Free.of_set (by decide) l4, Free.of_set (by decide) l5, Free.of_set (by decide) l6, Free.of_set (by decide) l7, Free.of_set (by decide) l8, Free.of_set (by decide) l9, Free.of_set (by decide) l10, Free.of_set (by decide) l11, Free.of_set (by decide) l12, Free.of_set (by decide) l13, Free.of_set (by decide) l14⟩)
        · have z := (hW.cell (p := ⟨b6, o6 + (k + 1), none⟩) hk6).trans y6
          refine Free.op rfl rfl (fun K hK => ?_)
          obtain rfl := l2 (hne 2 (by kernel_rfl))
          go_simp
          exact hK _ _ ((HI.out _ _ _).2 ⟨v123, v124, _, _, v127, v128, v129, v130, v131, v132, v122, v133, v134, v25, v26, rfl, hW, Free.of_set (by decide) l0, Free.of_set (by decide) l1, fun _ => rfl, fun _ => rfl, Free.of_set (by decide) l4, Free.of_set (by decide) l5, Free.of_set (by decide) l6, Free.of_set (by decide) l7, Free.of_set (by decide) l8, Free.of_set (by decide) l9, Free.of_set (by decide) l10, Free.of_set (by decide) l11, Free.of_set (by decide) l12, Free.of_set (by decide) l13, Free.of_set (by decide) l14⟩)
        · refine Free.op rfl rfl (fun K hK => ?_)
          go_simp
          exact hK _ _ ((HI.out _ _ _).2 ⟨v123, v124, v125, v126, _, v128, v129, v130, v131, v132, v122, v133, v134, v25, v26, rfl, hW, Free.of_set (by decide) l0, Free.of_set (by decide) l1, Free.of_set (by decide) l2, Free.of_set (by decide) l3, fun _ => rfl, Free.of_set (by decide) l5, Free.of_set (by decide) l6, Free.of_set (by decide) l7, Free.of_set (by decide) l8, Free.of_set (by decide) l9, Free.of_set (by decide) l10, Free.of_set (by decide) l11, Free.of_set (by decide) l12, Free.of_set (by decide) l13, Free.of_set (by decide) l14⟩)
        · refine Free.op rfl rfl (fun K hK => ?_)
          go_simp
          exact hK _ _ ((HI.out _ _ _).2 ⟨v123, v124, v125, v126, v127, _, v129, v130, v131, v132, v122, v133, v134, v25, v26, rfl, hW, Free.of_set (by decide) l0, Free.of_set (by decide) l1, Free.of_set (by decide) l2, Free.of_set (by decide) l3, Free.of_set (by decide) l4, fun _ => rfl, Free.of_set (by decide) l6, Free.of_set (by decide) l7, Free.of_set (by decide) l8, Free.of_set (by decide) l9, Free.of_set (by decide) l10, Free.of_set (by decide) l11, Free.of_set (by decide) l12, Free.of_set (by decide) l13, Free.of_set (by decide) l14⟩)
        · refine Free.op rfl rfl (fun K hK => ?_)
          obtain rfl := l5 (hne 5 (by kernel_rfl))
          go_simp
          exact hK _ _ ((HI.out _ _ _).2 ⟨v123, v124, v125, v126, v127, _, _, v130, v131, v132, v122, v133, v134, v25, v26, rfl, hW, Free.of_set (by decide) l0, Free.of_set (by decide) l1, Free.of_set (by decide) l2, Free.of_set (by decide) l3, Free.of_set (by decide) l4, fun _ => rfl, fun _ => rfl, Free.of_set (by decide) l7, Free.of_set (by decide) l8, Free.of_set (by decide) l9, Free.of_set (by decide) l10, Free.of_set (by decide) l11, Free.of_set (by decide) l12, Free.of_set (by decide) l13, Free.of_set (by decide) l14⟩)
        · refine Free.op rfl rfl (fun K hK => ?_)
          obtain rfl := l4 (hne 4 (by kernel_rfl))
          obtain rfl := l6 (hne 6 (by kernel_rfl))
          go_simp
          exact hK _ _ ((HI.out _ _ _).2 ⟨v123, v124, v125, v126, _, v128, _, _, v131, v132, v122, v133, v134, v25, v26, rfl, hW, Free.of_set (by decide) l0, Free.of_set (by decide) l1, Free.of_set (by decide) l2, Free.of_set (by decide) l3, fun _ => rfl, Free.of_set (by decide) l5, fun _ => rfl, fun _ => rfl, Free.of_set (by decide) l8, Free.of_set (by decide) l9, Free.of_set (by decide) l10, Free.of_set (by decide) l11, Free.of_set (by decide) l12, Free.of_set (by decide) l13, Free.of_set (by decide) l14⟩)
        · have z := (hW.cell (p := ⟨b6, o6 + k, none⟩) hk6).trans y5
          refine Free.op rfl rfl (fun K hK => ?_)
          obtain rfl := l7 (hne 7 (by kernel_rfl))
          go_simp
          exact hK _ _ ((HI.out _ _ _).2 ⟨v123, v124, v125, v126, v127, v128, v129, _, _, v132, v122, v133, v134, v25, v26, rfl, hW, Free.of_set (by decide) l0, Free.of_set (by decide) l1, Free.of_set (by decide) l2, Free.of_set (by decide) l3, Free.of_set (by decide) l4, Free.of_set (by decide) l5, Free.of_set (by decide) l6, fun _ => rfl, fun _ => rfl, Free.of_set (by decide) l9, Free.of_set (by decide) l10, Free.of_set (by decide) l11, Free.of_set (by decide) l12, Free.of_set (by decide) l13, Free.of_set (by decide) l14⟩)
        · refine Free.op rfl rfl (fun K hK => ?_)
          obtain rfl := l3 (hne 3 (by kernel_rfl))
          obtain rfl := l8 (hne 8 (by kernel_rfl))
          go_wp2_with (go_at_call 11; refine (HS _ (e6.step hW) (e5.step hW)).out.mono ?_; rintro e W3 ⟨rfl, hb⟩)
          exact (HI.out _ _ _).2 ⟨v123, v124, v125, _, v127, v128, v129, v130, _, _, v122, v133, v134, v25, v26, rfl, hW.trans (hb.mono hW.size), Free.of_set (by decide) l0, Free.of_set (by decide) l1, Free.of_set (by decide) l2, fun _ => rfl, Free.of_set (by decide) l4, Free.of_set (by decide) l5, Free.of_set (by decide) l6, Free.of_set (by decide) l7, fun _ => rfl, fun _ => rfl, Free.of_set (by decide) l10, Free.of_set (by decide) l11, Free.of_set (by decide) l12, Free.of_set (by decide) l13, Free.of_set (by decide) l14⟩
        · refine Free.op rfl rfl (fun K hK => ?_)
          obtain rfl := l9 (hne 9 (by kernel_rfl))
          go_simp
          exact hK _ _ ((HI.out _ _ _).2 ⟨v123, v124, v125, v126, v127, v128, v129, v130, v131, _, _, v133, v134, v25, v26, rfl, hW, Free.of_set (by decide) l0, Free.of_set (by decide) l1, Free.of_set (by decide) l2, Free.of_set (by decide) l3, Free.of_set (by decide) l4, Free.of_set (by decide) l5, Free.of_set (by decide) l6, Free.of_set (by decide) l7, Free.of_set (by decide) l8, fun _ => rfl, fun _ => rfl, Free.of_set (by decide) l11, Free.of_set (by decide) l12, Free.of_set (by decide) l13, Free.of_set (by decide) l14⟩)
        · refine Free.op rfl rfl (fun K hK => ?_)
          obtain rfl := l10 (hne 10 (by kernel_rfl))
          go_simp
          exact hK _ _ ((HI.out _ _ _).2 ⟨v123, v124, v125, v126, v127, v128, v129, v130, v131, v132, _, _, v134, v25, v26, rfl, hW, Free.of_set (by decide) l0, Free.of_set (by decide) l1, Free.of_set (by decide) l2, Free.of_set (by decide) l3, Free.of_set (by decide) l4, Free.of_set (by decide) l5, Free.of_set (by decide) l6, Free.of_set (by decide) l7, Free.of_set (by decide) l8, Free.of_set (by decide) l9, fun _ => rfl, fun _ => rfl, Free.of_set (by decide) l12, Free.of_set (by decide) l13, Free.of_set (by decide) l14⟩)
        · refine Free.op rfl rfl (fun K hK => ?_)
          obtain rfl := l10 (hne 10 (by kernel_rfl))
          go_simp
          exact hK _ _ ((HI.out _ _ _).2 ⟨v123, v124, v125, v126, v127, v128, v129, v130, v131, v132, _, v133, _, v25, v26, rfl, hW, Free.of_set (by decide) l0, Free.of_set (by decide) l1, Free.of_set (by decide) l2, Free.of_set (by decide) l3, Free.of_set (by decide) l4, Free.of_set (by decide) l5, Free.of_set (by decide) l6, Free.of_set (by decide) l7, Free.of_set (by decide) l8, Free.of_set (by decide) l9, fun _ => rfl, Free.of_set (by decide) l11, fun _ => rfl, Free.of_set (by decide) l13, Free.of_set (by decide) l14⟩)
        · refine Free.op rfl rfl (fun K hK => ?_)
          obtain rfl := l11 (hne 11 (by kernel_rfl))
          go_simp
          exact hK _ _ ((HI.out _ _ _).2 ⟨v123, v124, v125, v126, v127, v128, v129, v130, v131, v132, v122, _, v134, _, v26, rfl, hW, Free.of_set (by decide) l0, Free.of_set (by decide) l1, Free.of_set (by decide) l2, Free.of_set (by decide) l3, Free.of_set (by decide) l4, Free.of_set (by decide) l5, Free.of_set (by decide) l6, Free.of_set (by decide) l7, Free.of_set (by decide) l8, Free.of_set (by decide) l9, Free.of_set (by decide) l10, fun _ => rfl, Free.of_set (by decide) l12, fun _ => rfl, Free.of_set (by decide) l14⟩)
        · refine Free.op rfl rfl (fun K hK => ?_)
          obtain rfl := l12 (hne 12 (by kernel_rfl))
          go_simp
          exact hK _ _ ((HI.out _ _ _).2 ⟨v123, v124, v125, v126, v127, v128, v129, v130, v131, v132, v122, v133, _, v25, _, rfl, hW, Free.of_set (by decide) l0, Free.of_set (by decide) l1, Free.of_set (by decide) l2, Free.of_set (by decide) l3, Free.of_set (by decide) l4, Free.of_set (by decide) l5, Free.of_set (by decide) l6, Free.of_set (by decide) l7, Free.of_set (by decide) l8, Free.of_set (by decide) l9, Free.of_set (by decide) l10, Free.of_set (by decide) l11, fun _ => rfl, Free.of_set (by decide) l13, fun _ => rfl⟩)
      case s3 =>
        intro listed aq W1 hall hsz hv
        obtain ⟨v123, v124, v125, v126, v127, v128, v129, v130, v131, v132, v122, v133, v134, v25, v26, rfl, hW, l0, l1, l2, l3, l4, l5, l6, l7, l8, l9, l10, l11, l12, l13, l14⟩ := (HI.out _ _ _).1 hv
        clear hv HI
        obtain rfl := l0 (Free.listed_of hall hsz 0 (by decide))
        obtain rfl := l1 (Free.listed_of hall hsz 1 (by decide))
        obtain rfl := l2 (Free.listed_of hall hsz 2 (by decide))
        obtain rfl := l3 (Free.listed_of hall hsz 3 (by decide))
        obtain rfl := l4 (Free.listed_of hall hsz 4 (by decide))
        obtain rfl := l5 (Free.listed_of hall hsz 5 (by decide))
        obtain rfl := l6 (Free.listed_of hall hsz 6 (by decide))
        obtain rfl := l7 (Free.listed_of hall hsz 7 (by decide))
        obtain rfl := l8 (Free.listed_of hall hsz 8 (by decide))
        obtain rfl := l9 (Free.listed_of hall hsz 9 (by decide))
        obtain rfl := l10 (Free.listed_of hall hsz 10 (by decide))
        obtain rfl := l11 (Free.listed_of hall hsz 11 (by decide))
        obtain rfl := l12 (Free.listed_of hall hsz 12 (by decide))
        obtain rfl := l13 (Free.listed_of hall hsz 13 (by decide))
        obtain rfl := l14 (Free.listed_of hall hsz 14 (by decide))
        clear hall hsz
        replace hG := hG.step hW
        clear hW y5 y6 e5 e6
        go_wp2
        exact ⟨⟨k + 1, by omega, by simp, hG⟩, by simp [intOf]; omega⟩

    · obtain rfl : k = 6 := by omega
      have hkd : decide (((6 : Nat) : Int) + 1 < (TT.length : Int)) = false := decide_eq_false (by rw [L7.out]; decide)
      have hkd2 : decide ((7 : Int) < (TT.length : Int)) = false := decide_eq_false (by rw [L7.out]; decide)
      have hF : Fr (w.alloc (.cells #[.slice a0 s.length cap0, .slice a1 p.length cap1] 25)) wr [] := ⟨HFX.out.below.trans (hG.below.mono HFX.out.size), by simp, List.Pairwise.nil⟩
      have hc := (HCX.out.keep hG.below).wide hG.size
      clear N6 HJ6 HFX HCX hG m6 hk hkl HLT L7
      have y0 := (hF.below.cell (p := ⟨w.heap.size, 0, none⟩) h1).trans c0
      have y1 := (hF.below.cell (p := ⟨w.heap.size, 1, none⟩) h1).trans c1
      by_cases hpz : (Um.pathAll s p x u).2 = 0
      · have kp : ((Um.pathAll s p x u).2 != 0) = false := by simpa using hpz
        by_cases hhz : Um.hasF GA.1 x = 0
        · cases hha : hasA GA.1 x
          · rw [hhz, hha] at HHA
            clear hpz hhz hha HJ7
            generalize Um.pathAll s p x u = P at *
            go_upto_region 23 with (go_at_call 19; refine (HPA _ (hF.lf hf2) (hF.ls hp2) (hF.li hx2) (hF.ll hu2)).out.mono ?_; rintro e wn ⟨r3, rfl, hpt, hb⟩; replace hc := hc.step hb; replace hF := hF.step hb; clear hb; clear y0 y1; have y0 := (hF.below.cell (p := ⟨w.heap.size, 0, none⟩) h1).trans c0; have y1 := (hF.below.cell (p := ⟨w.heap.size, 1, none⟩) h1).trans c1; obtain ⟨a8, c8, rfl, -⟩ := (id hpt); clear HPA)
            go_wp2_with (go_at_call 12; refine (HHA _ _ hc (hF.li hx2)).out.mono ?_; rintro e wn ⟨rfl, hb⟩; replace hc := hc.step hb; replace hF := hF.step hb; clear hb; clear y0 y1; have y0 := (hF.below.cell (p := ⟨w.heap.size, 0, none⟩) h1).trans c0; have y1 := (hF.below.cell (p := ⟨w.heap.size, 1, none⟩) h1).trans c1; clear HHA)
            go_returns
            exact ⟨rfl, hBW.trans (hF.below.mono hBW.size)⟩
          · obtain ⟨q1, q2, q3⟩ := Um.pathAll_good hpz
            have HQ : Hid (∀ j, j < (Um.pathAll s p x u).1.length → Um.hasF GA.1 ((Um.pathAll s p x u).1[j]?.getD []) = 0 ∧ hasA GA.1 ((Um.pathAll s p x u).1[j]?.getD []) = true) := by
              refine hid fun j hj => ?_
              rw [q3] at hj ⊢
              have hj' : j < u.length + 1 := by
                have : j < (Um.paths s p x u (u.length + 1)).length := hj
                rwa [Um.paths_length] at this
              show Um.hasF GA.1 ((Um.paths s p x u (u.length + 1))[j]?.getD []) = 0 ∧ hasA GA.1 ((Um.paths s p x u (u.length + 1))[j]?.getD []) = true
              rw [Um.paths_get hj']
              exact HJ7.out x u j hha hpz hj'
            have l21 := (Um.pathAll_most s p x u).1
            rw [hhz, hha] at HHA
            clear hpz hhz hha HJ7 q1 q2 q3
            generalize Um.pathAll s p x u = P at *
            go_upto_region 23 with (go_at_call 19; refine (HPA _ (hF.lf hf2) (hF.ls hp2) (hF.li hx2) (hF.ll hu2)).out.mono ?_; rintro e wn ⟨r3, rfl, hpt, hb⟩; replace hc := hc.step hb; replace hF := hF.step hb; clear hb; clear y0 y1; have y0 := (hF.below.cell (p := ⟨w.heap.size, 0, none⟩) h1).trans c0; have y1 := (hF.below.cell (p := ⟨w.heap.size, 1, none⟩) h1).trans c1; obtain ⟨a8, c8, rfl, -⟩ := (id hpt); clear HPA)
            go_upto_region 26 with (go_at_call 12; refine (HHA _ _ hc (hF.li hx2)).out.mono ?_; rintro e wn ⟨rfl, hb⟩; replace hc := hc.step hb; replace hpt := hpt.step hb; replace hF := hF.step hb; clear hb; clear y0 y1; have y0 := (hF.below.cell (p := ⟨w.heap.size, 0, none⟩) h1).trans c0; have y1 := (hF.below.cell (p := ⟨w.heap.size, 1, none⟩) h1).trans c1; clear HHA)
            have HPX := hid hpt
            have HFX := hid hF
            have HCX := hid hc
            clear hpt hF hc y0 y1
            have hG := Fr.start wn
            go_wp2
            go_loopw [29] (fun i wq => ∃ k : Nat, k ≤ P.1.length ∧ i = .int .i64 k ∧ Fr wn wq []) (fun i _ => P.1.length - (intOf i).toNat)
            case atStart => exact ⟨0, Nat.zero_le _, rfl, hG⟩
            case round =>
              clear hG
              obtain ⟨k, hk, rfl, hG⟩ := hrel
              by_cases hkl : k < P.1.length
              · have hkk : (k : Int) < (P.1.length : Int) := by omega
                obtain ⟨b5, o5, c5, e5', -, m5, n5⟩ := HPX.out.open (by intro e; rw [e] at hkl; simp at hkl)
                cases e5'
                obtain ⟨x5, p5, e5⟩ := n5 k hkl
                have y5 := (hG.below.cell (p := ⟨b5, o5 + k, none⟩) m5).trans p5
                replace e5 := (e5.keep hG.below).wide hG.size
                have hc := (HCX.out.keep hG.below).wide hG.size
                have q := HQ.out k hkl
                have HS := fun w h1 h2 => hid (bhas_any GA.1 (.slice a9 GA.1.length c9) (P.1[k]?.getD []) x5 w h1 h2)
                rw [q.1, q.2] at HS
                clear n5 p5 q HQ HPX HCX HFX
                generalize P.1[k]?.getD [] = pk at *
                obtain ⟨a7, c7, rfl, -⟩ := (id e5)
                go_wp2_with (go_at_call 12; refine (HS _ hc e5).out.mono ?_; rintro e wn ⟨rfl, hb⟩; replace hc := hc.step hb; replace hG := hG.step hb; clear hb)
                exact ⟨⟨k + 1, by omega, by simp, hG⟩, by simp [intOf]; omega⟩
              · obtain rfl : k = P.1.length := by omega
                clear HPX HCX HQ
                go_wp2
                go_returns
                exact ⟨rfl, hBW.trans ((HFX.out.below.trans (hG.below.mono HFX.out.size)).mono hBW.size)⟩
        · have kh : (Um.hasF GA.1 x != 0) = true := by simpa using hhz
          clear hpz hhz HJ7
          generalize Um.pathAll s p x u = P at *
          generalize Um.hasF GA.1 x = HF at *
          generalize hasA GA.1 x = I at *
          go_upto_region 23 with (go_at_call 19; refine (HPA _ (hF.lf hf2) (hF.ls hp2) (hF.li hx2) (hF.ll hu2)).out.mono ?_; rintro e wn ⟨r3, rfl, hpt, hb⟩; replace hc := hc.step hb; replace hF := hF.step hb; clear hb; clear y0 y1; have y0 := (hF.below.cell (p := ⟨w.heap.size, 0, none⟩) h1).trans c0; have y1 := (hF.below.cell (p := ⟨w.heap.size, 1, none⟩) h1).trans c1; obtain ⟨a8, c8, rfl, -⟩ := (id hpt); clear HPA)
          go_wp2_with (go_at_call 12; refine (HHA _ _ hc (hF.li hx2)).out.mono ?_; rintro e wn ⟨rfl, hb⟩; replace hc := hc.step hb; replace hF := hF.step hb; clear hb; clear y0 y1; have y0 := (hF.below.cell (p := ⟨w.heap.size, 0, none⟩) h1).trans c0; have y1 := (hF.below.cell (p := ⟨w.heap.size, 1, none⟩) h1).trans c1; clear HHA)
          go_returns
          exact ⟨rfl, hBW.trans (hF.below.mono hBW.size)⟩
      · have kp : ((Um.pathAll s p x u).2 != 0) = true := by simpa using hpz
        clear hpz HJ7 HHA
        generalize Um.pathAll s p x u = P at *
        go_wp2_with (go_at_call 19; refine (HPA _ (hF.lf hf2) (hF.ls hp2) (hF.li hx2) (hF.ll hu2)).out.mono ?_; rintro e wn ⟨r3, rfl, hpt, hb⟩; replace hc := hc.step hb; replace hF := hF.step hb; clear hb; clear y0 y1; have y0 := (hF.below.cell (p := ⟨w.heap.size, 0, none⟩) h1).trans c0; have y1 := (hF.below.cell (p := ⟨w.heap.size, 1, none⟩) h1).trans c1; obtain ⟨a8, c8, rfl, -⟩ := (id hpt); clear HPA)
        go_returns
        exact ⟨rfl, hBW.trans (hF.below.mono hBW.size)⟩

theorem walk (s : List (List Um.Tm)) (v0 : Value) (p : List (Int × Int)) (v1 : Value) (b : List (Int × Int)) (v : Value) (x : List Int) (t : Value) (u : List (List Int)) (r : Value) (y : Int) (w : World) (hf : Lf w.heap.size w v0 s) (hp : Ls w.heap.size w v1 p) (hs : Ls w.heap.size w v b) (hx : Li w.heap.size w t x) (hu : Ll w.heap.size w r u) :
    Calls Try.prog 5 #[.agg #[v0, v1], v, t, r, .int .i64 y] w fun e w' => e = .returned (.bool true) ∧ Below w.heap.size w w' := by
  by_cases h : (Um.growAll s p b y 20).2 = 0
  · exact walk_yes s v0 p v1 b v x t u r y w hf hp hs hx hu h
  · exact walk_grow s v0 p v1 b v x t u r y w hf hp hs hx hu h

end Go.Proofs.Ytkeoafbkbblnaaa.HlStays
