/-
  The walk over 'spanlaw2.NarrowKeeps': for all x, y, z, a, b it returns true.
-/
import Derived.Test.YtomkekapgcpihaaDoorNarrow
import Derived.Test.YtomkekapgcpihaaDoorMems
import Derived.Test.YtomkekapgcpihaaDoorSame
import Derived.Deep.CutRange
import Derived.BigGuard
namespace Go.Proofs.YtomkekapgcpihaaDoor.NwKeeps
set_option linter.unusedSimpArgs false
open Go.RowKit

theorem fact : Um.nsumAll 0 5 0 5 8 20 = ((3, 5), (3, 5), (8, 10), 0) := by decide +kernel

set_option maxRecDepth 100000 in
set_option maxHeartbeats 16000000 in
theorem walk_early (xl xh yl yh zl zh a b : Int) (w : World) (h : ¬ (Um.chk xl xh = 0 ∧ Um.chk yl yh = 0 ∧ Um.chk zl zh = 0 ∧ xl ≤ a ∧ a ≤ xh ∧ yl ≤ b ∧ b ≤ yh)) :
    Calls Tryd.prog 4 #[.agg #[.int .i64 xl, .int .i64 xh], .agg #[.int .i64 yl, .int .i64 yh], .agg #[.int .i64 zl, .int .i64 zh], .int .i64 a, .int .i64 b] w fun e w' => e = .returned (.bool true) ∧ Below w.heap.size w w' := by
  have v0 := errV_none
  have q1 := errG
  have q2 := errGn
  have q3 := errE
  have q4 := errN
  have hF := (((Fr.start w).push xl xh rfl).push (b := w.heap.size + 1) yl yh (by simp)).push (b := w.heap.size + 1 + 1) zl zh (by simp)
  have x0l := (hF.at 2 rfl).lo
  have x0h := (hF.at 2 rfl).hi
  have x1l := (hF.at 1 rfl).lo
  have x1h := (hF.at 1 rfl).hi
  have x2l := (hF.at 0 rfl).lo
  have x2h := (hF.at 0 rfl).hi
  have H0 := fun w => hid (nwSum_any 0 5 0 5 8 20 w)
  rw [fact] at H0
  have HX := fun w => hid (check_any xl xh w)
  have HY := fun w => hid (check_any yl yh w)
  have HZ := fun w => hid (check_any zl zh w)
  by_cases tX : Um.chk xl xh = 0
  case neg =>
    have kX : (Um.chk xl xh != 0) = true := by simpa using tX
    clear h tX HY HZ
    generalize Um.chk xl xh = GX at *
    go_enter Tryd.func4, Tryd.ntmps4
    go_upto_region 4 with (go_at_call 11; refine (H0 _).out.mono ?_; rintro e wn ⟨rfl, hb⟩; replace hF := hF.step hb; clear hb; clear H0 x0l x0h x1l x1h x2l x2h; replace hF := ((hF.push (b := wn.heap.size) 3 5 rfl).push (b := wn.heap.size + 1) 3 5 (by simp)).push (b := wn.heap.size + 1 + 1) 8 10 (by simp); have z1 := (hF.at 2 rfl).lo; have z2 := (hF.at 1 rfl).lo; have z3 := (hF.at 0 rfl).hi)
    clear z1 z2 z3
    have x0l := (hF.at 5 rfl).lo
    have x0h := (hF.at 5 rfl).hi
    have x1l := (hF.at 4 rfl).lo
    have x1h := (hF.at 4 rfl).hi
    have x2l := (hF.at 3 rfl).lo
    have x2h := (hF.at 3 rfl).hi

    go_wp2_with (first | (go_at_call 17; refine (HX _).out.mono ?_; rintro e wq ⟨rfl, rfl⟩; replace hF := hF.alloc (.cells #[.int .i64 xl, .int .i64 xh] 23); clear x0l x0h x1l x1h x2l x2h; have x0l := (hF.at 5 rfl).lo; have x0h := (hF.at 5 rfl).hi; have x1l := (hF.at 4 rfl).lo; have x1h := (hF.at 4 rfl).hi; have x2l := (hF.at 3 rfl).lo; have x2h := (hF.at 3 rfl).hi; clear HX))
    go_returns
    exact ⟨rfl, hF.below⟩
  have kX : (Um.chk xl xh != 0) = false := by simpa using tX
  by_cases tY : Um.chk yl yh = 0
  case neg =>
    have kY : (Um.chk yl yh != 0) = true := by simpa using tY
    clear h tY HZ
    generalize Um.chk yl yh = GY at *
    go_enter Tryd.func4, Tryd.ntmps4
    go_upto_region 4 with (go_at_call 11; refine (H0 _).out.mono ?_; rintro e wn ⟨rfl, hb⟩; replace hF := hF.step hb; clear hb; clear H0 x0l x0h x1l x1h x2l x2h; replace hF := ((hF.push (b := wn.heap.size) 3 5 rfl).push (b := wn.heap.size + 1) 3 5 (by simp)).push (b := wn.heap.size + 1 + 1) 8 10 (by simp); have z1 := (hF.at 2 rfl).lo; have z2 := (hF.at 1 rfl).lo; have z3 := (hF.at 0 rfl).hi)
    clear z1 z2 z3
    have x0l := (hF.at 5 rfl).lo
    have x0h := (hF.at 5 rfl).hi
    have x1l := (hF.at 4 rfl).lo
    have x1h := (hF.at 4 rfl).hi
    have x2l := (hF.at 3 rfl).lo
    have x2h := (hF.at 3 rfl).hi

    go_wp2_with (first | (go_at_call 17; refine (HX _).out.mono ?_; rintro e wq ⟨rfl, rfl⟩; replace hF := hF.alloc (.cells #[.int .i64 xl, .int .i64 xh] 23); clear x0l x0h x1l x1h x2l x2h; have x0l := (hF.at 5 rfl).lo; have x0h := (hF.at 5 rfl).hi; have x1l := (hF.at 4 rfl).lo; have x1h := (hF.at 4 rfl).hi; have x2l := (hF.at 3 rfl).lo; have x2h := (hF.at 3 rfl).hi; clear HX) | (go_at_call 17; refine (HY _).out.mono ?_; rintro e wq ⟨rfl, rfl⟩; replace hF := hF.alloc (.cells #[.int .i64 yl, .int .i64 yh] 23); clear x0l x0h x1l x1h x2l x2h; have x0l := (hF.at 5 rfl).lo; have x0h := (hF.at 5 rfl).hi; have x1l := (hF.at 4 rfl).lo; have x1h := (hF.at 4 rfl).hi; have x2l := (hF.at 3 rfl).lo; have x2h := (hF.at 3 rfl).hi; clear HY))
    go_returns
    exact ⟨rfl, hF.below⟩
  have kY : (Um.chk yl yh != 0) = false := by simpa using tY
  by_cases tZ : Um.chk zl zh = 0
  case neg =>
    have kZ : (Um.chk zl zh != 0) = true := by simpa using tZ
    clear h tZ 
    generalize Um.chk zl zh = GZ at *
    go_enter Tryd.func4, Tryd.ntmps4
    go_upto_region 4 with (go_at_call 11; refine (H0 _).out.mono ?_; rintro e wn ⟨rfl, hb⟩; replace hF := hF.step hb; clear hb; clear H0 x0l x0h x1l x1h x2l x2h; replace hF := ((hF.push (b := wn.heap.size) 3 5 rfl).push (b := wn.heap.size + 1) 3 5 (by simp)).push (b := wn.heap.size + 1 + 1) 8 10 (by simp); have z1 := (hF.at 2 rfl).lo; have z2 := (hF.at 1 rfl).lo; have z3 := (hF.at 0 rfl).hi)
    clear z1 z2 z3
    have x0l := (hF.at 5 rfl).lo
    have x0h := (hF.at 5 rfl).hi
    have x1l := (hF.at 4 rfl).lo
    have x1h := (hF.at 4 rfl).hi
    have x2l := (hF.at 3 rfl).lo
    have x2h := (hF.at 3 rfl).hi

    go_wp2_with (first | (go_at_call 17; refine (HX _).out.mono ?_; rintro e wq ⟨rfl, rfl⟩; replace hF := hF.alloc (.cells #[.int .i64 xl, .int .i64 xh] 23); clear x0l x0h x1l x1h x2l x2h; have x0l := (hF.at 5 rfl).lo; have x0h := (hF.at 5 rfl).hi; have x1l := (hF.at 4 rfl).lo; have x1h := (hF.at 4 rfl).hi; have x2l := (hF.at 3 rfl).lo; have x2h := (hF.at 3 rfl).hi; clear HX) | (go_at_call 17; refine (HY _).out.mono ?_; rintro e wq ⟨rfl, rfl⟩; replace hF := hF.alloc (.cells #[.int .i64 yl, .int .i64 yh] 23); clear x0l x0h x1l x1h x2l x2h; have x0l := (hF.at 5 rfl).lo; have x0h := (hF.at 5 rfl).hi; have x1l := (hF.at 4 rfl).lo; have x1h := (hF.at 4 rfl).hi; have x2l := (hF.at 3 rfl).lo; have x2h := (hF.at 3 rfl).hi; clear HY) | (go_at_call 17; refine (HZ _).out.mono ?_; rintro e wq ⟨rfl, rfl⟩; replace hF := hF.alloc (.cells #[.int .i64 zl, .int .i64 zh] 23); clear x0l x0h x1l x1h x2l x2h; have x0l := (hF.at 5 rfl).lo; have x0h := (hF.at 5 rfl).hi; have x1l := (hF.at 4 rfl).lo; have x1h := (hF.at 4 rfl).hi; have x2l := (hF.at 3 rfl).lo; have x2h := (hF.at 3 rfl).hi; clear HZ))
    go_returns
    exact ⟨rfl, hF.below⟩
  have kZ : (Um.chk zl zh != 0) = false := by simpa using tZ
  have h2 : ¬ (xl ≤ a ∧ a ≤ xh ∧ yl ≤ b ∧ b ≤ yh) := fun g => h ⟨tX, tY, tZ, g⟩
  clear h tX tY tZ
  generalize Um.chk xl xh = GX at *
  generalize Um.chk yl yh = GY at *
  generalize Um.chk zl zh = GZ at *
  by_cases t0 : a < xl
  · have d0 : decide (a < xl) = true := decide_eq_true t0
    clear h2 t0
    go_enter Tryd.func4, Tryd.ntmps4
    go_upto_region 4 with (go_at_call 11; refine (H0 _).out.mono ?_; rintro e wn ⟨rfl, hb⟩; replace hF := hF.step hb; clear hb; clear H0 x0l x0h x1l x1h x2l x2h; replace hF := ((hF.push (b := wn.heap.size) 3 5 rfl).push (b := wn.heap.size + 1) 3 5 (by simp)).push (b := wn.heap.size + 1 + 1) 8 10 (by simp); have z1 := (hF.at 2 rfl).lo; have z2 := (hF.at 1 rfl).lo; have z3 := (hF.at 0 rfl).hi)
    clear z1 z2 z3
    have x0l := (hF.at 5 rfl).lo
    have x0h := (hF.at 5 rfl).hi
    have x1l := (hF.at 4 rfl).lo
    have x1h := (hF.at 4 rfl).hi
    have x2l := (hF.at 3 rfl).lo
    have x2h := (hF.at 3 rfl).hi

    go_wp2_with (first | (go_at_call 17; refine (HX _).out.mono ?_; rintro e wq ⟨rfl, rfl⟩; replace hF := hF.alloc (.cells #[.int .i64 xl, .int .i64 xh] 23); clear x0l x0h x1l x1h x2l x2h; have x0l := (hF.at 5 rfl).lo; have x0h := (hF.at 5 rfl).hi; have x1l := (hF.at 4 rfl).lo; have x1h := (hF.at 4 rfl).hi; have x2l := (hF.at 3 rfl).lo; have x2h := (hF.at 3 rfl).hi; clear HX) | (go_at_call 17; refine (HY _).out.mono ?_; rintro e wq ⟨rfl, rfl⟩; replace hF := hF.alloc (.cells #[.int .i64 yl, .int .i64 yh] 23); clear x0l x0h x1l x1h x2l x2h; have x0l := (hF.at 5 rfl).lo; have x0h := (hF.at 5 rfl).hi; have x1l := (hF.at 4 rfl).lo; have x1h := (hF.at 4 rfl).hi; have x2l := (hF.at 3 rfl).lo; have x2h := (hF.at 3 rfl).hi; clear HY) | (go_at_call 17; refine (HZ _).out.mono ?_; rintro e wq ⟨rfl, rfl⟩; replace hF := hF.alloc (.cells #[.int .i64 zl, .int .i64 zh] 23); clear x0l x0h x1l x1h x2l x2h; have x0l := (hF.at 5 rfl).lo; have x0h := (hF.at 5 rfl).hi; have x1l := (hF.at 4 rfl).lo; have x1h := (hF.at 4 rfl).hi; have x2l := (hF.at 3 rfl).lo; have x2h := (hF.at 3 rfl).hi; clear HZ))
    go_returns
    exact ⟨rfl, hF.below⟩
  have d0 : decide (a < xl) = false := decide_eq_false t0
  by_cases t1 : xh < a
  · have d1 : decide (xh < a) = true := decide_eq_true t1
    clear h2 t1
    go_enter Tryd.func4, Tryd.ntmps4
    go_upto_region 4 with (go_at_call 11; refine (H0 _).out.mono ?_; rintro e wn ⟨rfl, hb⟩; replace hF := hF.step hb; clear hb; clear H0 x0l x0h x1l x1h x2l x2h; replace hF := ((hF.push (b := wn.heap.size) 3 5 rfl).push (b := wn.heap.size + 1) 3 5 (by simp)).push (b := wn.heap.size + 1 + 1) 8 10 (by simp); have z1 := (hF.at 2 rfl).lo; have z2 := (hF.at 1 rfl).lo; have z3 := (hF.at 0 rfl).hi)
    clear z1 z2 z3
    have x0l := (hF.at 5 rfl).lo
    have x0h := (hF.at 5 rfl).hi
    have x1l := (hF.at 4 rfl).lo
    have x1h := (hF.at 4 rfl).hi
    have x2l := (hF.at 3 rfl).lo
    have x2h := (hF.at 3 rfl).hi

    go_wp2_with (first | (go_at_call 17; refine (HX _).out.mono ?_; rintro e wq ⟨rfl, rfl⟩; replace hF := hF.alloc (.cells #[.int .i64 xl, .int .i64 xh] 23); clear x0l x0h x1l x1h x2l x2h; have x0l := (hF.at 5 rfl).lo; have x0h := (hF.at 5 rfl).hi; have x1l := (hF.at 4 rfl).lo; have x1h := (hF.at 4 rfl).hi; have x2l := (hF.at 3 rfl).lo; have x2h := (hF.at 3 rfl).hi; clear HX) | (go_at_call 17; refine (HY _).out.mono ?_; rintro e wq ⟨rfl, rfl⟩; replace hF := hF.alloc (.cells #[.int .i64 yl, .int .i64 yh] 23); clear x0l x0h x1l x1h x2l x2h; have x0l := (hF.at 5 rfl).lo; have x0h := (hF.at 5 rfl).hi; have x1l := (hF.at 4 rfl).lo; have x1h := (hF.at 4 rfl).hi; have x2l := (hF.at 3 rfl).lo; have x2h := (hF.at 3 rfl).hi; clear HY) | (go_at_call 17; refine (HZ _).out.mono ?_; rintro e wq ⟨rfl, rfl⟩; replace hF := hF.alloc (.cells #[.int .i64 zl, .int .i64 zh] 23); clear x0l x0h x1l x1h x2l x2h; have x0l := (hF.at 5 rfl).lo; have x0h := (hF.at 5 rfl).hi; have x1l := (hF.at 4 rfl).lo; have x1h := (hF.at 4 rfl).hi; have x2l := (hF.at 3 rfl).lo; have x2h := (hF.at 3 rfl).hi; clear HZ))
    go_returns
    exact ⟨rfl, hF.below⟩
  have d1 : decide (xh < a) = false := decide_eq_false t1
  by_cases t2 : b < yl
  · have d2 : decide (b < yl) = true := decide_eq_true t2
    clear h2 t2
    go_enter Tryd.func4, Tryd.ntmps4
    go_upto_region 4 with (go_at_call 11; refine (H0 _).out.mono ?_; rintro e wn ⟨rfl, hb⟩; replace hF := hF.step hb; clear hb; clear H0 x0l x0h x1l x1h x2l x2h; replace hF := ((hF.push (b := wn.heap.size) 3 5 rfl).push (b := wn.heap.size + 1) 3 5 (by simp)).push (b := wn.heap.size + 1 + 1) 8 10 (by simp); have z1 := (hF.at 2 rfl).lo; have z2 := (hF.at 1 rfl).lo; have z3 := (hF.at 0 rfl).hi)
    clear z1 z2 z3
    have x0l := (hF.at 5 rfl).lo
    have x0h := (hF.at 5 rfl).hi
    have x1l := (hF.at 4 rfl).lo
    have x1h := (hF.at 4 rfl).hi
    have x2l := (hF.at 3 rfl).lo
    have x2h := (hF.at 3 rfl).hi

    go_wp2_with (first | (go_at_call 17; refine (HX _).out.mono ?_; rintro e wq ⟨rfl, rfl⟩; replace hF := hF.alloc (.cells #[.int .i64 xl, .int .i64 xh] 23); clear x0l x0h x1l x1h x2l x2h; have x0l := (hF.at 5 rfl).lo; have x0h := (hF.at 5 rfl).hi; have x1l := (hF.at 4 rfl).lo; have x1h := (hF.at 4 rfl).hi; have x2l := (hF.at 3 rfl).lo; have x2h := (hF.at 3 rfl).hi; clear HX) | (go_at_call 17; refine (HY _).out.mono ?_; rintro e wq ⟨rfl, rfl⟩; replace hF := hF.alloc (.cells #[.int .i64 yl, .int .i64 yh] 23); clear x0l x0h x1l x1h x2l x2h; have x0l := (hF.at 5 rfl).lo; have x0h := (hF.at 5 rfl).hi; have x1l := (hF.at 4 rfl).lo; have x1h := (hF.at 4 rfl).hi; have x2l := (hF.at 3 rfl).lo; have x2h := (hF.at 3 rfl).hi; clear HY) | (go_at_call 17; refine (HZ _).out.mono ?_; rintro e wq ⟨rfl, rfl⟩; replace hF := hF.alloc (.cells #[.int .i64 zl, .int .i64 zh] 23); clear x0l x0h x1l x1h x2l x2h; have x0l := (hF.at 5 rfl).lo; have x0h := (hF.at 5 rfl).hi; have x1l := (hF.at 4 rfl).lo; have x1h := (hF.at 4 rfl).hi; have x2l := (hF.at 3 rfl).lo; have x2h := (hF.at 3 rfl).hi; clear HZ))
    go_returns
    exact ⟨rfl, hF.below⟩
  have d2 : decide (b < yl) = false := decide_eq_false t2
  have d3 : decide (yh < b) = true := decide_eq_true (by omega)
  clear h2 t0 t1 t2
  go_enter Tryd.func4, Tryd.ntmps4
  go_upto_region 4 with (go_at_call 11; refine (H0 _).out.mono ?_; rintro e wn ⟨rfl, hb⟩; replace hF := hF.step hb; clear hb; clear H0 x0l x0h x1l x1h x2l x2h; replace hF := ((hF.push (b := wn.heap.size) 3 5 rfl).push (b := wn.heap.size + 1) 3 5 (by simp)).push (b := wn.heap.size + 1 + 1) 8 10 (by simp); have z1 := (hF.at 2 rfl).lo; have z2 := (hF.at 1 rfl).lo; have z3 := (hF.at 0 rfl).hi)
  clear z1 z2 z3
  have x0l := (hF.at 5 rfl).lo
  have x0h := (hF.at 5 rfl).hi
  have x1l := (hF.at 4 rfl).lo
  have x1h := (hF.at 4 rfl).hi
  have x2l := (hF.at 3 rfl).lo
  have x2h := (hF.at 3 rfl).hi

  go_wp2_with (first | (go_at_call 17; refine (HX _).out.mono ?_; rintro e wq ⟨rfl, rfl⟩; replace hF := hF.alloc (.cells #[.int .i64 xl, .int .i64 xh] 23); clear x0l x0h x1l x1h x2l x2h; have x0l := (hF.at 5 rfl).lo; have x0h := (hF.at 5 rfl).hi; have x1l := (hF.at 4 rfl).lo; have x1h := (hF.at 4 rfl).hi; have x2l := (hF.at 3 rfl).lo; have x2h := (hF.at 3 rfl).hi; clear HX) | (go_at_call 17; refine (HY _).out.mono ?_; rintro e wq ⟨rfl, rfl⟩; replace hF := hF.alloc (.cells #[.int .i64 yl, .int .i64 yh] 23); clear x0l x0h x1l x1h x2l x2h; have x0l := (hF.at 5 rfl).lo; have x0h := (hF.at 5 rfl).hi; have x1l := (hF.at 4 rfl).lo; have x1h := (hF.at 4 rfl).hi; have x2l := (hF.at 3 rfl).lo; have x2h := (hF.at 3 rfl).hi; clear HY) | (go_at_call 17; refine (HZ _).out.mono ?_; rintro e wq ⟨rfl, rfl⟩; replace hF := hF.alloc (.cells #[.int .i64 zl, .int .i64 zh] 23); clear x0l x0h x1l x1h x2l x2h; have x0l := (hF.at 5 rfl).lo; have x0h := (hF.at 5 rfl).hi; have x1l := (hF.at 4 rfl).lo; have x1h := (hF.at 4 rfl).hi; have x2l := (hF.at 3 rfl).lo; have x2h := (hF.at 3 rfl).hi; clear HZ))
  go_returns
  exact ⟨rfl, hF.below⟩

set_option maxRecDepth 100000 in
set_option maxHeartbeats 16000000 in
theorem walk_main (xl xh yl yh zl zh a b : Int) (w : World) (hg : HasErr w) (tX : Um.chk xl xh = 0) (tY : Um.chk yl yh = 0) (tZ : Um.chk zl zh = 0) (a1 : xl ≤ a) (a2 : a ≤ xh) (b1 : yl ≤ b) (b2 : b ≤ yh) :
    Calls Tryd.prog 4 #[.agg #[.int .i64 xl, .int .i64 xh], .agg #[.int .i64 yl, .int .i64 yh], .agg #[.int .i64 zl, .int .i64 zh], .int .i64 a, .int .i64 b] w fun e w' => e = .returned (.bool true) ∧ Below w.heap.size w w' := by
  have v0 := errV_none
  have q1 := errG
  have q2 := errGn
  have q3 := errE
  have q4 := errN
  have hF := (((Fr.start w).push xl xh rfl).push (b := w.heap.size + 1) yl yh (by simp)).push (b := w.heap.size + 1 + 1) zl zh (by simp)
  have x0l := (hF.at 2 rfl).lo
  have x0h := (hF.at 2 rfl).hi
  have x1l := (hF.at 1 rfl).lo
  have x1h := (hF.at 1 rfl).hi
  have x2l := (hF.at 0 rfl).lo
  have x2h := (hF.at 0 rfl).hi
  have H0 := fun w => hid (nwSum_any 0 5 0 5 8 20 w)
  rw [fact] at H0
  have HX := fun w => hid (check_any xl xh w)
  have HY := fun w => hid (check_any yl yh w)
  have HZ := fun w => hid (check_any zl zh w)
  have HSM := fun w => hid (nwSum_any xl xh yl yh zl zh w)
  have HTM := fun w => hid (nwTimes_any xl xh yl yh zl zh w)
  have hn : Um.narF xl xh yl yh zl zh = 0 := Um.nar_ok.2 ⟨tX, tY, tZ⟩
  have HSI := hid (fun h => Um.nsum_in (xl := xl) (xh := xh) (yl := yl) (yh := yh) (zl := zl) (zh := zh) h)
  have HSK := hid (fun h5 h6 => Um.nsum_keeps (xl := xl) (xh := xh) (yl := yl) (yh := yh) (zl := zl) (zh := zh) a1 a2 b1 b2 h5 h6)
  have HTI := hid (fun h => Um.ntimes_in (xl := xl) (xh := xh) (yl := yl) (yh := yh) (zl := zl) (zh := zh) h)
  have HTK := hid (fun c h5 h6 hc => Um.ntimes_keeps (xl := xl) (xh := xh) (yl := yl) (yh := yh) (zl := zl) (zh := zh) (c := c) a1 a2 b1 b2 h5 h6 hc)
  rw [← Um.nsumAll_yes hn] at HSI HSK
  rw [← Um.ntimesAll_yes hn] at HTI HTK
  have kX : (Um.chk xl xh != 0) = false := by simpa using tX
  have kY : (Um.chk yl yh != 0) = false := by simpa using tY
  have kZ : (Um.chk zl zh != 0) = false := by simpa using tZ
  obtain ⟨mx1, mx2, -⟩ := Um.chk_ok.1 tX
  obtain ⟨my1, my2, -⟩ := Um.chk_ok.1 tY
  replace mx1 := (Um.may_iff _).1 mx1
  replace mx2 := (Um.may_iff _).1 mx2
  replace my1 := (Um.may_iff _).1 my1
  replace my2 := (Um.may_iff _).1 my2
  have ra1 : -1000000000 ≤ a := by omega
  have ra2 : a ≤ 1000000000 := by omega
  have rb1 : -1000000000 ≤ b := by omega
  have rb2 : b ≤ 1000000000 := by omega
  obtain ⟨p1, p2⟩ := Um.mul_by (A := 1000000000) (B := 1000000000) (show -1000000000 ≤ a by omega) (show a ≤ 1000000000 by omega) (show -1000000000 ≤ b by omega) (show b ≤ 1000000000 by omega) (by decide)
  have d0 : decide (a < xl) = false := decide_eq_false (by omega)
  have d1 : decide (xh < a) = false := decide_eq_false (by omega)
  have d2 : decide (b < yl) = false := decide_eq_false (by omega)
  have d3 : decide (yh < b) = false := decide_eq_false (by omega)
  clear tX tY tZ a1 a2 b1 b2 hn mx1 mx2 my1 my2
  generalize Um.nsumAll xl xh yl yh zl zh = S at *
  generalize Um.ntimesAll xl xh yl yh zl zh = T at *
  generalize S.1.1 = Sa at *
  generalize S.1.2 = Sb at *
  generalize S.2.1.1 = Sc at *
  generalize S.2.1.2 = Sd at *
  generalize S.2.2.1.1 = Se at *
  generalize S.2.2.1.2 = Sf at *
  generalize S.2.2.2 = Sz at *
  generalize T.1.1 = Ta at *
  generalize T.1.2 = Tb at *
  generalize T.2.1.1 = Tc at *
  generalize T.2.1.2 = Td at *
  generalize T.2.2.1.1 = Te at *
  generalize T.2.2.1.2 = Tf at *
  generalize T.2.2.2 = Tz at *
  clear S T
  generalize Um.chk xl xh = GX at *
  generalize Um.chk yl yh = GY at *
  generalize Um.chk zl zh = GZ at *
  go_enter Tryd.func4, Tryd.ntmps4
  go_upto_region 4 with (go_at_call 11; refine (H0 _).out.mono ?_; rintro e wn ⟨rfl, hb⟩; replace hF := hF.step hb; clear hb; clear H0 x0l x0h x1l x1h x2l x2h; replace hF := ((hF.push (b := wn.heap.size) 3 5 rfl).push (b := wn.heap.size + 1) 3 5 (by simp)).push (b := wn.heap.size + 1 + 1) 8 10 (by simp); have z1 := (hF.at 2 rfl).lo; have z2 := (hF.at 1 rfl).lo; have z3 := (hF.at 0 rfl).hi)
  clear z1 z2 z3
  have x0l := (hF.at 5 rfl).lo
  have x0h := (hF.at 5 rfl).hi
  have x1l := (hF.at 4 rfl).lo
  have x1h := (hF.at 4 rfl).hi
  have x2l := (hF.at 3 rfl).lo
  have x2h := (hF.at 3 rfl).hi

  generalize ((wn.alloc (.cells #[.int .i64 3, .int .i64 5] 23)).alloc (.cells #[.int .i64 3, .int .i64 5] 23)).alloc (.cells #[.int .i64 8, .int .i64 10] 23) = W0 at *
  generalize wn.heap.size = B0 at *
  generalize B0 + 1 + 1 = B2 at *
  generalize B0 + 1 = B1 at *
  generalize w.heap.size + 1 + 1 = X2 at *
  generalize w.heap.size + 1 = X1 at *
  go_upto_region 6 with (first | (go_at_call 17; refine (HX _).out.mono ?_; rintro e wq ⟨rfl, rfl⟩; replace hF := hF.alloc (.cells #[.int .i64 xl, .int .i64 xh] 23); clear x0l x0h x1l x1h x2l x2h; have x0l := (hF.at 5 rfl).lo; have x0h := (hF.at 5 rfl).hi; have x1l := (hF.at 4 rfl).lo; have x1h := (hF.at 4 rfl).hi; have x2l := (hF.at 3 rfl).lo; have x2h := (hF.at 3 rfl).hi; clear HX) | (go_at_call 17; refine (HY _).out.mono ?_; rintro e wq ⟨rfl, rfl⟩; replace hF := hF.alloc (.cells #[.int .i64 yl, .int .i64 yh] 23); clear x0l x0h x1l x1h x2l x2h; have x0l := (hF.at 5 rfl).lo; have x0h := (hF.at 5 rfl).hi; have x1l := (hF.at 4 rfl).lo; have x1h := (hF.at 4 rfl).hi; have x2l := (hF.at 3 rfl).lo; have x2h := (hF.at 3 rfl).hi; clear HY) | (go_at_call 17; refine (HZ _).out.mono ?_; rintro e wq ⟨rfl, rfl⟩; replace hF := hF.alloc (.cells #[.int .i64 zl, .int .i64 zh] 23); clear x0l x0h x1l x1h x2l x2h; have x0l := (hF.at 5 rfl).lo; have x0h := (hF.at 5 rfl).hi; have x1l := (hF.at 4 rfl).lo; have x1h := (hF.at 4 rfl).hi; have x2l := (hF.at 3 rfl).lo; have x2h := (hF.at 3 rfl).hi; clear HZ))
  obtain ⟨SB, hSB⟩ : ∃ SB, SB = (decide (zl ≤ a + b) && decide (a + b ≤ zh)) := ⟨_, rfl⟩
  have HSB := hid hSB
  clear hSB kX kY kZ d0 d1 d2 d3
  go_cut [15] from 20 to 95 (fun v wr => v = .bool SB ∧ Fr w wr [(B2, 8, 10), (B1, 3, 5), (B0, 3, 5), (X2, zl, zh), (X1, yl, yh), (w.heap.size, xl, xh)])
  case first =>
    clear HSM HTM HSI HSK HTI HTK p1 p2
    by_cases t1 : zl ≤ a + b
    · have e1 : decide (zl ≤ a + b) = true := decide_eq_true t1
      have e : SB = decide (a + b ≤ zh) := by rw [HSB.out, e1, Bool.true_and]
      clear HSB t1
      subst e
      go_wp2
      go_meet
      case rel => exact ⟨rfl, hF⟩
    · have e1 : decide (zl ≤ a + b) = false := decide_eq_false t1
      have e : SB = false := by rw [HSB.out, e1, Bool.false_and]
      clear HSB t1
      subst e
      go_wp2
      go_meet
      case rel => exact ⟨rfl, hF⟩
  case rest =>
   clear hF x0l x0h x1l x1h x2l x2h
   obtain ⟨rfl, hF⟩ := hcut
   have x0l := (hF.at 5 rfl).lo
   have x0h := (hF.at 5 rfl).hi
   have x1l := (hF.at 4 rfl).lo
   have x1h := (hF.at 4 rfl).hi
   have x2l := (hF.at 3 rfl).lo
   have x2h := (hF.at 3 rfl).hi
   go_upto_region 8 with (go_at_call 11; refine (HSM _).out.mono ?_; rintro e wn ⟨rfl, hb⟩; replace hF := hF.step hb; clear hb; clear x0l x0h x1l x1h x2l x2h; clear HSM; have y1 := (hF.at 2 rfl).fl; have y2 := (hF.at 2 rfl).fh; have y3 := (hF.at 2 rfl).lo; have y4 := (hF.at 2 rfl).hi; have hFa := hF.put 2 rfl Sa Sb rfl; have y5 := (hFa.at 1 rfl).fl; have y6 := (hFa.at 1 rfl).fh; have y7 := (hFa.at 1 rfl).lo; have y8 := (hFa.at 1 rfl).hi; have hFb := hFa.put 1 rfl Sc Sd rfl; have y9 := (hFb.at 0 rfl).fl; have y10 := (hFb.at 0 rfl).fh; have y11 := (hFb.at 0 rfl).lo; have y12 := (hFb.at 0 rfl).hi; replace hF := hFb.put 0 rfl Se Sf rfl; clear hFa hFb)
   clear y1 y2 y3 y4 y5 y6 y7 y8 y9 y10 y11 y12
   generalize ((((((wn.setCell ⟨B0, 0, none⟩ (.int .i64 Sa)).setCell ⟨B0, 1, none⟩ (.int .i64 Sb)).setCell ⟨B1, 0, none⟩ (.int .i64 Sc)).setCell ⟨B1, 1, none⟩ (.int .i64 Sd)).setCell ⟨B2, 0, none⟩ (.int .i64 Se)).setCell ⟨B2, 1, none⟩ (.int .i64 Sf)) = W2 at *
   have E5 : Hid (SB = true → (Sz == 5) = false) := hid fun h => by
     have g := HSB.out
     rw [h] at g
     obtain ⟨g1, g2⟩ := Bool.and_eq_true_iff.1 g.symm
     exact beq_false_of_ne (HSK.out (of_decide_eq_true g1) (of_decide_eq_true g2)).1
   go_cut [109] from 96 to 109 (fun v wr => v = .bool false ∧ Fr w wr [(B2, Se, Sf), (B1, Sc, Sd), (B0, Sa, Sb), (X2, zl, zh), (X1, yl, yh), (w.heap.size, xl, xh)])
   case first =>
    clear HTM HSI HSK HTI HTK p1 p2 HSB
    cases SB
    · clear E5
      go_wp2
      go_meet
      case rel => exact ⟨rfl, hF⟩
    · have k5 := E5.out rfl
      clear E5
      go_wp2_with (go_at_call 12; refine (hid (same_any _ _ _ (hg.below (B := w.heap.size) hF.below hg.size))).out.mono ?_; rintro e wn ⟨rfl, hb⟩; replace hF := hF.step hb; clear hb)
      go_meet
      case rel => exact ⟨rfl, hF⟩
   case rest =>
    clear hF E5
    obtain ⟨rfl, hF⟩ := hcut
    go_upto_if 111 with fail
    go_cut [16] from 110 to 194 (fun v wr => v = errV Sz ∧ Fr w wr [(B2, Se, Sf), (B1, Sc, Sd), (B0, Sa, Sb), (X2, zl, zh), (X1, yl, yh), (w.heap.size, xl, xh)])
    case first =>
      clear HTM HTI HTK p1 p2
      by_cases hz : Sz = 0
      · have kz : (Sz == 0) = true := by simpa using hz
        obtain ⟨⟨i1, i2⟩, ⟨i3, i4⟩, i5, i6⟩ := HSI.out hz
        have n1 : decide (Sa < xl) = false := decide_eq_false (by omega)
        have n2 : decide (xh < Sb) = false := decide_eq_false (by omega)
        have n3 : decide (Sc < yl) = false := decide_eq_false (by omega)
        have n4 : decide (yh < Sd) = false := decide_eq_false (by omega)
        have n5 : decide (Se < zl) = false := decide_eq_false (by omega)
        have n6 : decide (zh < Sf) = false := decide_eq_false (by omega)
        have x0l := (hF.at 5 rfl).lo
        have x0h := (hF.at 5 rfl).hi
        have x1l := (hF.at 4 rfl).lo
        have x1h := (hF.at 4 rfl).hi
        have x2l := (hF.at 3 rfl).lo
        have x2h := (hF.at 3 rfl).hi
        have z1 := (hF.at 2 rfl).lo
        have z2 := (hF.at 2 rfl).hi
        have z3 := (hF.at 1 rfl).lo
        have z4 := (hF.at 1 rfl).hi
        have z5 := (hF.at 0 rfl).lo
        have z6 := (hF.at 0 rfl).hi
        cases SB
        · clear HSB HSI HSK hz i1 i2 i3 i4 i5 i6
          go_upto_region 11 with fail
          dsimp only [List.append]
          go_wp2
          go_meet
          case rel => exact ⟨rfl, hF⟩
        · have g := HSB.out
          obtain ⟨g1, g2⟩ := Bool.and_eq_true_iff.1 g.symm
          obtain ⟨⟨j1, j2⟩, ⟨j3, j4⟩, j5, j6⟩ := (HSK.out (of_decide_eq_true g1) (of_decide_eq_true g2)).2 hz
          have o1 : decide (a < Sa) = false := decide_eq_false (by omega)
          have o2 : decide (Sb < a) = false := decide_eq_false (by omega)
          have o3 : decide (b < Sc) = false := decide_eq_false (by omega)
          have o4 : decide (Sd < b) = false := decide_eq_false (by omega)
          have o5 : decide (a + b < Se) = false := decide_eq_false (by omega)
          have o6 : decide (Sf < a + b) = false := decide_eq_false (by omega)
          clear HSB HSI HSK hz i1 i2 i3 i4 i5 i6 g g1 g2 j1 j2 j3 j4 j5 j6
          go_upto_region 11 with fail
          dsimp only [List.append]
          go_wp2
          go_meet
          case rel => exact ⟨rfl, hF⟩
      · have kz : (Sz == 0) = false := by simpa using hz
        clear HSB HSI HSK hz
        go_wp2
        go_meet
        case rel => exact ⟨rfl, hF⟩
    case rest =>
     clear hF HSI HSK HSB
     obtain ⟨rfl, hF⟩ := hcut
     obtain ⟨q1, q2⟩ := Um.tdiv_le (a * b) 1000 1000000000000000000 (by omega) (by omega)
     have x0l := (hF.at 5 rfl).lo
     have x0h := (hF.at 5 rfl).hi
     have x1l := (hF.at 4 rfl).lo
     have x1h := (hF.at 4 rfl).hi
     have x2l := (hF.at 3 rfl).lo
     have x2h := (hF.at 3 rfl).hi
     go_upto_region 14 with fail
     obtain ⟨TB, hTB⟩ : ∃ TB, TB = (((a * b).tmod 1000 == 0) && decide (zl ≤ (a * b).tdiv 1000) && decide ((a * b).tdiv 1000 ≤ zh)) := ⟨_, rfl⟩
     have HTB := hid hTB
     clear hTB
     have HCM : Hid ((a * b).tmod 1000 = 0 → a * b = 1000 * (a * b).tdiv 1000) := hid fun h => by
       have := Int.mul_tdiv_add_tmod (a * b) 1000
       omega
     generalize (a * b).tdiv 1000 = C at *
     go_cut [18] from 195 to 215 (fun v wr => v = .bool TB ∧ Fr w wr [(B2, Se, Sf), (B1, Sc, Sd), (B0, Sa, Sb), (X2, zl, zh), (X1, yl, yh), (w.heap.size, xl, xh)])
     case first =>
       clear HTM HTI HTK HCM
       by_cases t1 : (a * b).tmod 1000 = 0
       · have e1 : ((a * b).tmod 1000 == 0) = true := by simpa using t1
         by_cases t2 : zl ≤ C
         · have e2 : decide (zl ≤ C) = true := decide_eq_true t2
           have e : TB = decide (C ≤ zh) := by rw [HTB.out, e1, e2]; rfl
           clear HTB t1 t2
           subst e
           go_wp2
           go_meet
           case rel => exact ⟨rfl, hF⟩
         · have e2 : decide (zl ≤ C) = false := decide_eq_false t2
           have e : TB = false := by rw [HTB.out, e1, e2]; rfl
           clear HTB t1 t2
           subst e
           go_wp2
           go_meet
           case rel => exact ⟨rfl, hF⟩
       · have e1 : ((a * b).tmod 1000 == 0) = false := by simpa using t1
         have e : TB = false := by rw [HTB.out, e1]; rfl
         clear HTB t1
         subst e
         go_wp2
         go_meet
         case rel => exact ⟨rfl, hF⟩
     case rest =>
      clear hF x0l x0h x1l x1h x2l x2h
      obtain ⟨rfl, hF⟩ := hcut
      have x0l := (hF.at 5 rfl).lo
      have x0h := (hF.at 5 rfl).hi
      have x1l := (hF.at 4 rfl).lo
      have x1h := (hF.at 4 rfl).hi
      have x2l := (hF.at 3 rfl).lo
      have x2h := (hF.at 3 rfl).hi
      have HTG : Hid (TB = true → (a * b).tmod 1000 = 0 ∧ zl ≤ C ∧ C ≤ zh) := hid fun h => by
        have g := HTB.out
        rw [h] at g
        obtain ⟨g1, g2⟩ := Bool.and_eq_true_iff.1 g.symm
        obtain ⟨g3, g4⟩ := Bool.and_eq_true_iff.1 g1
        exact ⟨by simpa using g3, of_decide_eq_true g4, of_decide_eq_true g2⟩
      clear HTB
      go_upto_region 16 with (go_at_call 16; refine (HTM _).out.mono ?_; rintro e wn ⟨rfl, hb⟩; replace hF := hF.step hb; clear hb; clear x0l x0h x1l x1h x2l x2h; clear HTM; have y1 := (hF.at 2 rfl).fl; have y2 := (hF.at 2 rfl).fh; have y3 := (hF.at 2 rfl).lo; have y4 := (hF.at 2 rfl).hi; have hFa := hF.put 2 rfl Ta Tb rfl; have y5 := (hFa.at 1 rfl).fl; have y6 := (hFa.at 1 rfl).fh; have y7 := (hFa.at 1 rfl).lo; have y8 := (hFa.at 1 rfl).hi; have hFb := hFa.put 1 rfl Tc Td rfl; have y9 := (hFb.at 0 rfl).fl; have y10 := (hFb.at 0 rfl).fh; have y11 := (hFb.at 0 rfl).lo; have y12 := (hFb.at 0 rfl).hi; replace hF := hFb.put 0 rfl Te Tf rfl; clear hFa hFb)
      clear y1 y2 y3 y4 y5 y6 y7 y8 y9 y10 y11 y12
      generalize ((((((wn.setCell ⟨B0, 0, none⟩ (.int .i64 Ta)).setCell ⟨B0, 1, none⟩ (.int .i64 Tb)).setCell ⟨B1, 0, none⟩ (.int .i64 Tc)).setCell ⟨B1, 1, none⟩ (.int .i64 Td)).setCell ⟨B2, 0, none⟩ (.int .i64 Te)).setCell ⟨B2, 1, none⟩ (.int .i64 Tf)) = W3 at *
      have E5 : Hid (TB = true → (Tz == 5) = false) := hid fun h => by
        obtain ⟨g1, g2, g3⟩ := HTG.out h
        exact beq_false_of_ne (HTK.out C g2 g3 (HCM.out g1)).1
      go_cut [229] from 216 to 229 (fun v wr => v = .bool false ∧ Fr w wr [(B2, Te, Tf), (B1, Tc, Td), (B0, Ta, Tb), (X2, zl, zh), (X1, yl, yh), (w.heap.size, xl, xh)])
      case first =>
        clear HTI HTK HTG HCM
        cases TB
        · clear E5
          go_wp2
          go_meet
          case rel => exact ⟨rfl, hF⟩
        · have k5 := E5.out rfl
          clear E5
          go_wp2_with (go_at_call 12; refine (hid (same_any _ _ _ (hg.below (B := w.heap.size) hF.below hg.size))).out.mono ?_; rintro e wn ⟨rfl, hb⟩; replace hF := hF.step hb; clear hb)
          go_meet
          case rel => exact ⟨rfl, hF⟩
      case rest =>
        clear hF E5
        obtain ⟨rfl, hF⟩ := hcut
        by_cases hz : Tz = 0
        · have kz : (Tz != 0) = false := by simpa using hz
          obtain ⟨⟨i1, i2⟩, ⟨i3, i4⟩, i5, i6⟩ := HTI.out hz
          have n1 : decide (xl ≤ Ta) = true := decide_eq_true (by omega)
          have n2 : decide (Tb ≤ xh) = true := decide_eq_true (by omega)
          have n3 : decide (yl ≤ Tc) = true := decide_eq_true (by omega)
          have n4 : decide (Td ≤ yh) = true := decide_eq_true (by omega)
          have n5 : decide (zl ≤ Te) = true := decide_eq_true (by omega)
          have n6 : decide (Tf ≤ zh) = true := decide_eq_true (by omega)
          have x0l := (hF.at 5 rfl).lo
          have x0h := (hF.at 5 rfl).hi
          have x1l := (hF.at 4 rfl).lo
          have x1h := (hF.at 4 rfl).hi
          have x2l := (hF.at 3 rfl).lo
          have x2h := (hF.at 3 rfl).hi
          have z1 := (hF.at 2 rfl).lo
          have z2 := (hF.at 2 rfl).hi
          have z3 := (hF.at 1 rfl).lo
          have z4 := (hF.at 1 rfl).hi
          have z5 := (hF.at 0 rfl).lo
          have z6 := (hF.at 0 rfl).hi
          cases TB
          · clear HTI HTK HTG HCM hz i1 i2 i3 i4 i5 i6
            go_upto_region 18 with fail
            dsimp only [List.append]
            go_wp2
            go_returns
            exact ⟨rfl, hF.below⟩
          · obtain ⟨g1, g2, g3⟩ := HTG.out rfl
            obtain ⟨⟨j1, j2⟩, ⟨j3, j4⟩, j5, j6⟩ := (HTK.out C g2 g3 (HCM.out g1)).2 hz
            have o1 : decide (Ta ≤ a) = true := decide_eq_true (by omega)
            have o2 : decide (a ≤ Tb) = true := decide_eq_true (by omega)
            have o3 : decide (Tc ≤ b) = true := decide_eq_true (by omega)
            have o4 : decide (b ≤ Td) = true := decide_eq_true (by omega)
            have o5 : decide (Te ≤ C) = true := decide_eq_true (by omega)
            have o6 : decide (C ≤ Tf) = true := decide_eq_true (by omega)
            clear HTI HTK HTG HCM hz i1 i2 i3 i4 i5 i6 g1 g2 g3 j1 j2 j3 j4 j5 j6
            go_upto_region 18 with fail
            dsimp only [List.append]
            go_wp2
            go_returns
            exact ⟨rfl, hF.below⟩
        · have kz : (Tz != 0) = true := by simpa using hz
          clear HTI HTK HTG HCM hz
          go_upto_region 18 with fail
          dsimp only [List.append]
          go_wp2
          go_returns
          exact ⟨rfl, hF.below⟩

theorem walk (xl xh yl yh zl zh a b : Int) (w : World) (hg : HasErr w) :
    Calls Tryd.prog 4 #[.agg #[.int .i64 xl, .int .i64 xh], .agg #[.int .i64 yl, .int .i64 yh], .agg #[.int .i64 zl, .int .i64 zh], .int .i64 a, .int .i64 b] w fun e w' => e = .returned (.bool true) ∧ Below w.heap.size w w' := by
  by_cases h : Um.chk xl xh = 0 ∧ Um.chk yl yh = 0 ∧ Um.chk zl zh = 0 ∧ xl ≤ a ∧ a ≤ xh ∧ yl ≤ b ∧ b ≤ yh
  · obtain ⟨tX, tY, tZ, a1, a2, b1, b2⟩ := h
    exact walk_main xl xh yl yh zl zh a b w hg tX tY tZ a1 a2 b1 b2
  · exact walk_early xl xh yl yh zl zh a b w h

end Go.Proofs.YtomkekapgcpihaaDoor.NwKeeps
