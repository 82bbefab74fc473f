/-
  The walk over 'spanlaw1.NewtonTells': for all p, x, steps it returns true.
-/
import Derived.Test.YthoiiffdigkodaaDoorNewton
import Derived.Test.YthoiiffdigkodaaDoorRefNewton
import Derived.Test.YthoiiffdigkodaaDoorRefPoly
import Derived.Test.YthoiiffdigkodaaDoorSame
namespace Go.Proofs.YthoiiffdigkodaaDoor.NTells
set_option linter.unusedSimpArgs false
open Go.RowKit

theorem not_over {p : List Int} {lo hi : Int} (h : ¬ Um.over p lo hi = 0) : Um.newtAll p lo hi = (0, 0, Um.over p lo hi) := by unfold Um.newtAll; rw [if_neg h]
theorem is_over {p : List Int} {lo hi : Int} (h : Um.over p lo hi = 0) : Um.newtAll p lo hi = Um.newtR lo hi p := by unfold Um.newtAll; rw [if_pos h]
theorem run_one {p : List Int} {lo hi steps : Int} (h : ¬ (0 ≤ steps ∧ steps ≤ 20)) : Um.runAll p lo hi steps = (0, 0, 1) := by
  have e : Um.runF p lo hi steps = 1 := by unfold Um.runF; rw [if_neg h]
  unfold Um.runAll; rw [e, if_neg (by decide)]
theorem run_not {p : List Int} {lo hi steps : Int} (h : 0 ≤ steps ∧ steps ≤ 20) (ho : ¬ Um.over p lo hi = 0) : Um.runAll p lo hi steps = (0, 0, Um.over p lo hi) := by
  have e : Um.runF p lo hi steps = Um.over p lo hi := by unfold Um.runF; rw [if_pos h]
  unfold Um.runAll; rw [e, if_neg ho]
theorem run_is {p : List Int} {lo hi steps : Int} (h : 0 ≤ steps ∧ steps ≤ 20) (ho : Um.over p lo hi = 0) : Um.runAll p lo hi steps = Um.stR lo hi p steps.toNat := by
  unfold Um.runAll; rw [if_pos (Um.run_ok.2 ⟨h, ho⟩)]
theorem st_rest {p : List Int} {lo hi steps : Int} {k : Nat} (hk : (k : Int) ≤ steps) (h : ¬ (Um.stR lo hi p k).2.2 = 0) : Um.stR lo hi p steps.toNat = (0, 0, (Um.stR lo hi p k).2.2) := by
  obtain ⟨j, e⟩ : ∃ j, steps.toNat = k + j := ⟨steps.toNat - k, by omega⟩
  rw [e, Um.st_stay h j]
  obtain ⟨a, b⟩ := (Um.st_fault lo hi p k).resolve_left h
  exact Prod.ext a (Prod.ext b rfl)

set_option maxRecDepth 100000 in
set_option maxHeartbeats 8000000 in
theorem walk_over_low (p : List Int) (v : Value) (lo hi steps : Int) (w : World) (hl : Li w.heap.size w v p) (hg : HasErr w) (ho : ¬ Um.over p lo hi = 0) (h1 : steps < 0) :
    Calls Tryd.prog 4 #[v, .agg #[.int .i64 lo, .int .i64 hi], .int .i64 steps] w fun e w' => e = .returned (.bool true) ∧ Below w.heap.size w w' := by
  have v0 := errV_none
  have q1 := errG
  have q2 := errGn
  have q3 := errE
  have q4 := errN
  have HO := fun w hl => hid (rOver_any p v lo hi w hl)
  have HS := fun w hl => hid (step_any p v lo hi w hl)
  have HR := fun w hl => hid (run_any p v lo hi steps w hl)
  rw [not_over ho] at HS
  rw [run_one (by omega)] at HR
  have kG : (Um.over p lo hi == 0) = false := by simpa using ho
  have jG : (Um.over p lo hi != 0) = true := by simpa using ho
  have t1 : decide (steps < 0) = true := by simpa using h1
  have t3 : decide (0 < steps) = false := decide_eq_false (by omega)
  clear ho h1
  generalize Um.over p lo hi = G at *
  have hF := (Fr.start w).push lo hi rfl
  have x0l := (hF.at 0 rfl).lo
  have x0h := (hF.at 0 rfl).hi
  obtain ⟨a0, cap0, rfl, -⟩ := (id hl)
  go_enter Tryd.func4, Tryd.ntmps4
  go_wp2_with (first | (go_at_call 10; refine (HO _ (hF.li hl)).out.mono ?_; rintro e wo ⟨rfl, hb⟩; replace hF := hF.step hb; clear hb; clear x0l x0h; replace hF := hF.push 0 0 rfl; have x1l := (hF.at 1 rfl).lo; have x1h := (hF.at 1 rfl).hi) | (go_at_call 12; refine (HS _ (hF.li hl)).out.mono ?_; rintro e wp ⟨rfl, hb⟩; replace hF := hF.step hb; clear hb; clear x1l x1h; replace hF := hF.push 0 0 rfl; have x0l := (hF.at 0 rfl).lo; have x0h := (hF.at 0 rfl).hi; have x1l := (hF.at 1 rfl).lo; have x1h := (hF.at 1 rfl).hi) | (go_at_call 8; refine (hid (same_any _ _ _ (hg.below (B := w.heap.size) hF.below hg.size))).out.mono ?_; rintro e wn ⟨rfl, hb⟩; replace hF := hF.step hb; clear hb; clear x0l x0h x1l x1h; have x0l := (hF.at 0 rfl).lo; have x0h := (hF.at 0 rfl).hi; have x1l := (hF.at 1 rfl).lo; have x1h := (hF.at 1 rfl).hi; have x2l := (hF.at 2 rfl).lo; have x2h := (hF.at 2 rfl).hi; have y1 := (hF.at 1 rfl).fl; have y2 := (hF.at 1 rfl).fh; have y3 := (hF.at 1 rfl).lo; have y4 := (hF.at 1 rfl).hi; replace hF := hF.put 1 rfl lo hi rfl))
  clear x0l x0h x1l x1h x2l x2h y1 y2 y3 y4
  refine wp_loop_rounds 1 ?_
  rw [rounds_succ]
  have y1 := (hF.at 1 rfl).fl
  have y2 := (hF.at 1 rfl).fh
  have y3 := (hF.at 1 rfl).lo
  have y4 := (hF.at 1 rfl).hi
  replace hF := hF.put 1 rfl 0 0 rfl
  have x2l := (hF.at 2 rfl).lo
  have x2h := (hF.at 2 rfl).hi
  go_wp2_with (first | (go_at_call 13; refine (HR _ (hF.li hl)).out.mono ?_; rintro e wn ⟨rfl, hb⟩; replace hF := hF.step hb; clear hb; clear x2l x2h; have y1 := (hF.at 0 rfl).fl; have y2 := (hF.at 0 rfl).fh; have y3 := (hF.at 0 rfl).lo; have y4 := (hF.at 0 rfl).hi; replace hF := hF.put 0 rfl 0 0 rfl; have x0l := (hF.at 0 rfl).lo; have x0h := (hF.at 0 rfl).hi; have x1l := (hF.at 1 rfl).lo; have x1h := (hF.at 1 rfl).hi) | (go_at_call 8; refine (hid (same_any _ _ _ (hg.below (B := w.heap.size) hF.below hg.size))).out.mono ?_; rintro e wn ⟨rfl, hb⟩; replace hF := hF.step hb; clear hb; clear x0l x0h x1l x1h; have x0l := (hF.at 0 rfl).lo; have x0h := (hF.at 0 rfl).hi; have x1l := (hF.at 1 rfl).lo; have x1h := (hF.at 1 rfl).hi))
  go_returns
  exact ⟨rfl, hF.below⟩

set_option maxRecDepth 100000 in
set_option maxHeartbeats 8000000 in
theorem walk_over_high (p : List Int) (v : Value) (lo hi steps : Int) (w : World) (hl : Li w.heap.size w v p) (hg : HasErr w) (ho : ¬ Um.over p lo hi = 0) (h1 : ¬ steps < 0) (h2 : 20 < steps) :
    Calls Tryd.prog 4 #[v, .agg #[.int .i64 lo, .int .i64 hi], .int .i64 steps] w fun e w' => e = .returned (.bool true) ∧ Below w.heap.size w w' := by
  have v0 := errV_none
  have q1 := errG
  have q2 := errGn
  have q3 := errE
  have q4 := errN
  have HO := fun w hl => hid (rOver_any p v lo hi w hl)
  have HS := fun w hl => hid (step_any p v lo hi w hl)
  have HR := fun w hl => hid (run_any p v lo hi steps w hl)
  rw [not_over ho] at HS
  rw [run_one (by omega)] at HR
  have kG : (Um.over p lo hi == 0) = false := by simpa using ho
  have jG : (Um.over p lo hi != 0) = true := by simpa using ho
  have t1 : decide (steps < 0) = false := by simpa using h1
  have t2 : decide (20 < steps) = true := by simpa using h2
  have t3 : decide (0 < steps) = true := decide_eq_true (by omega)
  clear ho h1 h2
  generalize Um.over p lo hi = G at *
  have hF := (Fr.start w).push lo hi rfl
  have x0l := (hF.at 0 rfl).lo
  have x0h := (hF.at 0 rfl).hi
  obtain ⟨a0, cap0, rfl, -⟩ := (id hl)
  go_enter Tryd.func4, Tryd.ntmps4
  go_wp2_with (first | (go_at_call 10; refine (HO _ (hF.li hl)).out.mono ?_; rintro e wo ⟨rfl, hb⟩; replace hF := hF.step hb; clear hb; clear x0l x0h; replace hF := hF.push 0 0 rfl; have x1l := (hF.at 1 rfl).lo; have x1h := (hF.at 1 rfl).hi) | (go_at_call 12; refine (HS _ (hF.li hl)).out.mono ?_; rintro e wp ⟨rfl, hb⟩; replace hF := hF.step hb; clear hb; clear x1l x1h; replace hF := hF.push 0 0 rfl; have x0l := (hF.at 0 rfl).lo; have x0h := (hF.at 0 rfl).hi; have x1l := (hF.at 1 rfl).lo; have x1h := (hF.at 1 rfl).hi) | (go_at_call 8; refine (hid (same_any _ _ _ (hg.below (B := w.heap.size) hF.below hg.size))).out.mono ?_; rintro e wn ⟨rfl, hb⟩; replace hF := hF.step hb; clear hb; clear x0l x0h x1l x1h; have x0l := (hF.at 0 rfl).lo; have x0h := (hF.at 0 rfl).hi; have x1l := (hF.at 1 rfl).lo; have x1h := (hF.at 1 rfl).hi; have x2l := (hF.at 2 rfl).lo; have x2h := (hF.at 2 rfl).hi; have y1 := (hF.at 1 rfl).fl; have y2 := (hF.at 1 rfl).fh; have y3 := (hF.at 1 rfl).lo; have y4 := (hF.at 1 rfl).hi; replace hF := hF.put 1 rfl lo hi rfl))
  clear x0l x0h x1l x1h x2l x2h y1 y2 y3 y4
  refine wp_loop_rounds 1 ?_
  rw [rounds_succ]
  have y1 := (hF.at 1 rfl).fl
  have y2 := (hF.at 1 rfl).fh
  have y3 := (hF.at 1 rfl).lo
  have y4 := (hF.at 1 rfl).hi
  replace hF := hF.put 1 rfl 0 0 rfl
  have x2l := (hF.at 2 rfl).lo
  have x2h := (hF.at 2 rfl).hi
  go_wp2_with (first | (go_at_call 13; refine (HR _ (hF.li hl)).out.mono ?_; rintro e wn ⟨rfl, hb⟩; replace hF := hF.step hb; clear hb; clear x2l x2h; have y1 := (hF.at 0 rfl).fl; have y2 := (hF.at 0 rfl).fh; have y3 := (hF.at 0 rfl).lo; have y4 := (hF.at 0 rfl).hi; replace hF := hF.put 0 rfl 0 0 rfl; have x0l := (hF.at 0 rfl).lo; have x0h := (hF.at 0 rfl).hi; have x1l := (hF.at 1 rfl).lo; have x1h := (hF.at 1 rfl).hi) | (go_at_call 8; refine (hid (same_any _ _ _ (hg.below (B := w.heap.size) hF.below hg.size))).out.mono ?_; rintro e wn ⟨rfl, hb⟩; replace hF := hF.step hb; clear hb; clear x0l x0h x1l x1h; have x0l := (hF.at 0 rfl).lo; have x0h := (hF.at 0 rfl).hi; have x1l := (hF.at 1 rfl).lo; have x1h := (hF.at 1 rfl).hi))
  go_returns
  exact ⟨rfl, hF.below⟩

set_option maxRecDepth 100000 in
set_option maxHeartbeats 8000000 in
theorem walk_over_none (p : List Int) (v : Value) (lo hi steps : Int) (w : World) (hl : Li w.heap.size w v p) (hg : HasErr w) (ho : ¬ Um.over p lo hi = 0) (h1 : ¬ steps < 0) (h2 : ¬ 20 < steps) (h3 : ¬ 0 < steps) :
    Calls Tryd.prog 4 #[v, .agg #[.int .i64 lo, .int .i64 hi], .int .i64 steps] w fun e w' => e = .returned (.bool true) ∧ Below w.heap.size w w' := by
  have v0 := errV_none
  have q1 := errG
  have q2 := errGn
  have q3 := errE
  have q4 := errN
  have HO := fun w hl => hid (rOver_any p v lo hi w hl)
  have HS := fun w hl => hid (step_any p v lo hi w hl)
  have HR := fun w hl => hid (run_any p v lo hi steps w hl)
  rw [not_over ho] at HS
  rw [run_not (by omega) ho] at HR
  have kG : (Um.over p lo hi == 0) = false := by simpa using ho
  have jG : (Um.over p lo hi != 0) = true := by simpa using ho
  have t1 : decide (steps < 0) = false := by simpa using h1
  have t2 : decide (20 < steps) = false := by simpa using h2
  have t3 : decide (0 < steps) = false := by simpa using h3
  clear ho h1 h2 h3
  generalize Um.over p lo hi = G at *
  have hF := (Fr.start w).push lo hi rfl
  have x0l := (hF.at 0 rfl).lo
  have x0h := (hF.at 0 rfl).hi
  obtain ⟨a0, cap0, rfl, -⟩ := (id hl)
  go_enter Tryd.func4, Tryd.ntmps4
  go_wp2_with (first | (go_at_call 10; refine (HO _ (hF.li hl)).out.mono ?_; rintro e wo ⟨rfl, hb⟩; replace hF := hF.step hb; clear hb; clear x0l x0h; replace hF := hF.push 0 0 rfl; have x1l := (hF.at 1 rfl).lo; have x1h := (hF.at 1 rfl).hi) | (go_at_call 12; refine (HS _ (hF.li hl)).out.mono ?_; rintro e wp ⟨rfl, hb⟩; replace hF := hF.step hb; clear hb; clear x1l x1h; replace hF := hF.push 0 0 rfl; have x0l := (hF.at 0 rfl).lo; have x0h := (hF.at 0 rfl).hi; have x1l := (hF.at 1 rfl).lo; have x1h := (hF.at 1 rfl).hi) | (go_at_call 8; refine (hid (same_any _ _ _ (hg.below (B := w.heap.size) hF.below hg.size))).out.mono ?_; rintro e wn ⟨rfl, hb⟩; replace hF := hF.step hb; clear hb; clear x0l x0h x1l x1h; have x0l := (hF.at 0 rfl).lo; have x0h := (hF.at 0 rfl).hi; have x1l := (hF.at 1 rfl).lo; have x1h := (hF.at 1 rfl).hi; have x2l := (hF.at 2 rfl).lo; have x2h := (hF.at 2 rfl).hi; have y1 := (hF.at 1 rfl).fl; have y2 := (hF.at 1 rfl).fh; have y3 := (hF.at 1 rfl).lo; have y4 := (hF.at 1 rfl).hi; replace hF := hF.put 1 rfl lo hi rfl))
  clear x0l x0h x1l x1h x2l x2h y1 y2 y3 y4
  refine wp_loop_rounds 1 ?_
  rw [rounds_succ]
  have y1 := (hF.at 1 rfl).fl
  have y2 := (hF.at 1 rfl).fh
  have y3 := (hF.at 1 rfl).lo
  have y4 := (hF.at 1 rfl).hi
  replace hF := hF.put 1 rfl 0 0 rfl
  have x2l := (hF.at 2 rfl).lo
  have x2h := (hF.at 2 rfl).hi
  go_wp2_with (first | (go_at_call 13; refine (HR _ (hF.li hl)).out.mono ?_; rintro e wn ⟨rfl, hb⟩; replace hF := hF.step hb; clear hb; clear x2l x2h; have y1 := (hF.at 0 rfl).fl; have y2 := (hF.at 0 rfl).fh; have y3 := (hF.at 0 rfl).lo; have y4 := (hF.at 0 rfl).hi; replace hF := hF.put 0 rfl 0 0 rfl; have x0l := (hF.at 0 rfl).lo; have x0h := (hF.at 0 rfl).hi; have x1l := (hF.at 1 rfl).lo; have x1h := (hF.at 1 rfl).hi) | (go_at_call 8; refine (hid (same_any _ _ _ (hg.below (B := w.heap.size) hF.below hg.size))).out.mono ?_; rintro e wn ⟨rfl, hb⟩; replace hF := hF.step hb; clear hb; clear x0l x0h x1l x1h; have x0l := (hF.at 0 rfl).lo; have x0h := (hF.at 0 rfl).hi; have x1l := (hF.at 1 rfl).lo; have x1h := (hF.at 1 rfl).hi))
  go_returns
  exact ⟨rfl, hF.below⟩

set_option maxRecDepth 100000 in
set_option maxHeartbeats 8000000 in
theorem walk_over_some (p : List Int) (v : Value) (lo hi steps : Int) (w : World) (hl : Li w.heap.size w v p) (hg : HasErr w) (ho : ¬ Um.over p lo hi = 0) (h1 : ¬ steps < 0) (h2 : ¬ 20 < steps) (h3 : 0 < steps) :
    Calls Tryd.prog 4 #[v, .agg #[.int .i64 lo, .int .i64 hi], .int .i64 steps] w fun e w' => e = .returned (.bool true) ∧ Below w.heap.size w w' := by
  have v0 := errV_none
  have q1 := errG
  have q2 := errGn
  have q3 := errE
  have q4 := errN
  have HO := fun w hl => hid (rOver_any p v lo hi w hl)
  have HS := fun w hl => hid (step_any p v lo hi w hl)
  have HR := fun w hl => hid (run_any p v lo hi steps w hl)
  rw [not_over ho] at HS
  rw [run_not (by omega) ho] at HR
  have kG : (Um.over p lo hi == 0) = false := by simpa using ho
  have jG : (Um.over p lo hi != 0) = true := by simpa using ho
  have t1 : decide (steps < 0) = false := by simpa using h1
  have t2 : decide (20 < steps) = false := by simpa using h2
  have t3 : decide (0 < steps) = true := by simpa using h3
  clear ho h1 h2 h3
  generalize Um.over p lo hi = G at *
  have hF := (Fr.start w).push lo hi rfl
  have x0l := (hF.at 0 rfl).lo
  have x0h := (hF.at 0 rfl).hi
  obtain ⟨a0, cap0, rfl, -⟩ := (id hl)
  go_enter Tryd.func4, Tryd.ntmps4
  go_wp2_with (first | (go_at_call 10; refine (HO _ (hF.li hl)).out.mono ?_; rintro e wo ⟨rfl, hb⟩; replace hF := hF.step hb; clear hb; clear x0l x0h; replace hF := hF.push 0 0 rfl; have x1l := (hF.at 1 rfl).lo; have x1h := (hF.at 1 rfl).hi) | (go_at_call 12; refine (HS _ (hF.li hl)).out.mono ?_; rintro e wp ⟨rfl, hb⟩; replace hF := hF.step hb; clear hb; clear x1l x1h; replace hF := hF.push 0 0 rfl; have x0l := (hF.at 0 rfl).lo; have x0h := (hF.at 0 rfl).hi; have x1l := (hF.at 1 rfl).lo; have x1h := (hF.at 1 rfl).hi) | (go_at_call 8; refine (hid (same_any _ _ _ (hg.below (B := w.heap.size) hF.below hg.size))).out.mono ?_; rintro e wn ⟨rfl, hb⟩; replace hF := hF.step hb; clear hb; clear x0l x0h x1l x1h; have x0l := (hF.at 0 rfl).lo; have x0h := (hF.at 0 rfl).hi; have x1l := (hF.at 1 rfl).lo; have x1h := (hF.at 1 rfl).hi; have x2l := (hF.at 2 rfl).lo; have x2h := (hF.at 2 rfl).hi; have y1 := (hF.at 1 rfl).fl; have y2 := (hF.at 1 rfl).fh; have y3 := (hF.at 1 rfl).lo; have y4 := (hF.at 1 rfl).hi; replace hF := hF.put 1 rfl lo hi rfl))
  clear x0l x0h x1l x1h x2l x2h y1 y2 y3 y4
  refine wp_loop_rounds 1 ?_
  rw [rounds_succ]
  have y1 := (hF.at 1 rfl).fl
  have y2 := (hF.at 1 rfl).fh
  have y3 := (hF.at 1 rfl).lo
  have y4 := (hF.at 1 rfl).hi
  replace hF := hF.put 1 rfl 0 0 rfl
  have x2l := (hF.at 2 rfl).lo
  have x2h := (hF.at 2 rfl).hi
  go_wp2_with (first | (go_at_call 13; refine (HR _ (hF.li hl)).out.mono ?_; rintro e wn ⟨rfl, hb⟩; replace hF := hF.step hb; clear hb; clear x2l x2h; have y1 := (hF.at 0 rfl).fl; have y2 := (hF.at 0 rfl).fh; have y3 := (hF.at 0 rfl).lo; have y4 := (hF.at 0 rfl).hi; replace hF := hF.put 0 rfl 0 0 rfl; have x0l := (hF.at 0 rfl).lo; have x0h := (hF.at 0 rfl).hi; have x1l := (hF.at 1 rfl).lo; have x1h := (hF.at 1 rfl).hi) | (go_at_call 8; refine (hid (same_any _ _ _ (hg.below (B := w.heap.size) hF.below hg.size))).out.mono ?_; rintro e wn ⟨rfl, hb⟩; replace hF := hF.step hb; clear hb; clear x0l x0h x1l x1h; have x0l := (hF.at 0 rfl).lo; have x0h := (hF.at 0 rfl).hi; have x1l := (hF.at 1 rfl).lo; have x1h := (hF.at 1 rfl).hi))
  go_returns
  exact ⟨rfl, hF.below⟩

set_option maxRecDepth 100000 in
set_option maxHeartbeats 8000000 in
theorem walk_good_low (p : List Int) (v : Value) (lo hi steps : Int) (w : World) (hl : Li w.heap.size w v p) (hg : HasErr w) (ho : Um.over p lo hi = 0) (h1 : steps < 0) :
    Calls Tryd.prog 4 #[v, .agg #[.int .i64 lo, .int .i64 hi], .int .i64 steps] w fun e w' => e = .returned (.bool true) ∧ Below w.heap.size w w' := by
  have v0 := errV_none
  have q1 := errG
  have q2 := errGn
  have q3 := errE
  have q4 := errN
  have HO := fun w hl => hid (rOver_any p v lo hi w hl)
  have HS := fun w hl => hid (step_any p v lo hi w hl)
  have HR := fun w hl => hid (run_any p v lo hi steps w hl)
  have HN := fun w hl => hid (rNewton_any p v lo hi w hl ho)
  rw [is_over ho] at HS
  rw [run_one (by omega)] at HR
  have kG : (Um.over p lo hi == 0) = true := by simpa using ho
  have t1 : decide (steps < 0) = true := by simpa using h1
  have t3 : decide (0 < steps) = false := decide_eq_false (by omega)
  clear ho h1
  generalize Um.over p lo hi = G at *
  generalize Um.newtR lo hi p = N at *
  have hF := (Fr.start w).push lo hi rfl
  have x0l := (hF.at 0 rfl).lo
  have x0h := (hF.at 0 rfl).hi
  obtain ⟨a0, cap0, rfl, -⟩ := (id hl)
  go_enter Tryd.func4, Tryd.ntmps4
  go_wp2_with (first | (go_at_call 10; refine (HO _ (hF.li hl)).out.mono ?_; rintro e wo ⟨rfl, hb⟩; replace hF := hF.step hb; clear hb; clear x0l x0h; replace hF := hF.push 0 0 rfl; have x1l := (hF.at 1 rfl).lo; have x1h := (hF.at 1 rfl).hi) | (go_at_call 11; refine (HN _ (hF.li hl)).out.mono ?_; rintro e wn ⟨rfl, hb⟩; replace hF := hF.step hb; clear hb; clear x1l x1h; have y1 := (hF.at 0 rfl).fl; have y2 := (hF.at 0 rfl).fh; have y3 := (hF.at 0 rfl).lo; have y4 := (hF.at 0 rfl).hi; replace hF := hF.put 0 rfl N.1 N.2.1 rfl; have x1l := (hF.at 1 rfl).lo; have x1h := (hF.at 1 rfl).hi) | (go_at_call 12; refine (HS _ (hF.li hl)).out.mono ?_; rintro e wp ⟨rfl, hb⟩; replace hF := hF.step hb; clear hb; clear x1l x1h; replace hF := hF.push N.1 N.2.1 rfl; have x0l := (hF.at 0 rfl).lo; have x0h := (hF.at 0 rfl).hi; have x1l := (hF.at 1 rfl).lo; have x1h := (hF.at 1 rfl).hi) | (go_at_call 8; refine (hid (same_any _ _ _ (hg.below (B := w.heap.size) hF.below hg.size))).out.mono ?_; rintro e wn ⟨rfl, hb⟩; replace hF := hF.step hb; clear hb; clear x0l x0h x1l x1h; have x0l := (hF.at 0 rfl).lo; have x0h := (hF.at 0 rfl).hi; have x1l := (hF.at 1 rfl).lo; have x1h := (hF.at 1 rfl).hi; have x2l := (hF.at 2 rfl).lo; have x2h := (hF.at 2 rfl).hi; have y1 := (hF.at 1 rfl).fl; have y2 := (hF.at 1 rfl).fh; have y3 := (hF.at 1 rfl).lo; have y4 := (hF.at 1 rfl).hi; replace hF := hF.put 1 rfl lo hi rfl))
  clear x0l x0h x1l x1h x2l x2h y1 y2 y3 y4
  refine wp_loop_rounds 1 ?_
  rw [rounds_succ]
  have y1 := (hF.at 1 rfl).fl
  have y2 := (hF.at 1 rfl).fh
  have y3 := (hF.at 1 rfl).lo
  have y4 := (hF.at 1 rfl).hi
  replace hF := hF.put 1 rfl 0 0 rfl
  have x2l := (hF.at 2 rfl).lo
  have x2h := (hF.at 2 rfl).hi
  go_wp2_with (first | (go_at_call 13; refine (HR _ (hF.li hl)).out.mono ?_; rintro e wn ⟨rfl, hb⟩; replace hF := hF.step hb; clear hb; clear x2l x2h; have y1 := (hF.at 0 rfl).fl; have y2 := (hF.at 0 rfl).fh; have y3 := (hF.at 0 rfl).lo; have y4 := (hF.at 0 rfl).hi; replace hF := hF.put 0 rfl 0 0 rfl; have x0l := (hF.at 0 rfl).lo; have x0h := (hF.at 0 rfl).hi; have x1l := (hF.at 1 rfl).lo; have x1h := (hF.at 1 rfl).hi) | (go_at_call 8; refine (hid (same_any _ _ _ (hg.below (B := w.heap.size) hF.below hg.size))).out.mono ?_; rintro e wn ⟨rfl, hb⟩; replace hF := hF.step hb; clear hb; clear x0l x0h x1l x1h; have x0l := (hF.at 0 rfl).lo; have x0h := (hF.at 0 rfl).hi; have x1l := (hF.at 1 rfl).lo; have x1h := (hF.at 1 rfl).hi))
  go_returns
  exact ⟨rfl, hF.below⟩

set_option maxRecDepth 100000 in
set_option maxHeartbeats 8000000 in
theorem walk_good_high (p : List Int) (v : Value) (lo hi steps : Int) (w : World) (hl : Li w.heap.size w v p) (hg : HasErr w) (ho : Um.over p lo hi = 0) (h1 : ¬ steps < 0) (h2 : 20 < steps) :
    Calls Tryd.prog 4 #[v, .agg #[.int .i64 lo, .int .i64 hi], .int .i64 steps] w fun e w' => e = .returned (.bool true) ∧ Below w.heap.size w w' := by
  have v0 := errV_none
  have q1 := errG
  have q2 := errGn
  have q3 := errE
  have q4 := errN
  have HO := fun w hl => hid (rOver_any p v lo hi w hl)
  have HS := fun w hl => hid (step_any p v lo hi w hl)
  have HR := fun w hl => hid (run_any p v lo hi steps w hl)
  have HN := fun w hl => hid (rNewton_any p v lo hi w hl ho)
  rw [is_over ho] at HS
  rw [run_one (by omega)] at HR
  have kG : (Um.over p lo hi == 0) = true := by simpa using ho
  have t1 : decide (steps < 0) = false := by simpa using h1
  have t2 : decide (20 < steps) = true := by simpa using h2
  have t3 : decide (0 < steps) = true := decide_eq_true (by omega)
  clear ho h1 h2
  generalize Um.over p lo hi = G at *
  generalize Um.newtR lo hi p = N at *
  have hF := (Fr.start w).push lo hi rfl
  have x0l := (hF.at 0 rfl).lo
  have x0h := (hF.at 0 rfl).hi
  obtain ⟨a0, cap0, rfl, -⟩ := (id hl)
  go_enter Tryd.func4, Tryd.ntmps4
  go_wp2_with (first | (go_at_call 10; refine (HO _ (hF.li hl)).out.mono ?_; rintro e wo ⟨rfl, hb⟩; replace hF := hF.step hb; clear hb; clear x0l x0h; replace hF := hF.push 0 0 rfl; have x1l := (hF.at 1 rfl).lo; have x1h := (hF.at 1 rfl).hi) | (go_at_call 11; refine (HN _ (hF.li hl)).out.mono ?_; rintro e wn ⟨rfl, hb⟩; replace hF := hF.step hb; clear hb; clear x1l x1h; have y1 := (hF.at 0 rfl).fl; have y2 := (hF.at 0 rfl).fh; have y3 := (hF.at 0 rfl).lo; have y4 := (hF.at 0 rfl).hi; replace hF := hF.put 0 rfl N.1 N.2.1 rfl; have x1l := (hF.at 1 rfl).lo; have x1h := (hF.at 1 rfl).hi) | (go_at_call 12; refine (HS _ (hF.li hl)).out.mono ?_; rintro e wp ⟨rfl, hb⟩; replace hF := hF.step hb; clear hb; clear x1l x1h; replace hF := hF.push N.1 N.2.1 rfl; have x0l := (hF.at 0 rfl).lo; have x0h := (hF.at 0 rfl).hi; have x1l := (hF.at 1 rfl).lo; have x1h := (hF.at 1 rfl).hi) | (go_at_call 8; refine (hid (same_any _ _ _ (hg.below (B := w.heap.size) hF.below hg.size))).out.mono ?_; rintro e wn ⟨rfl, hb⟩; replace hF := hF.step hb; clear hb; clear x0l x0h x1l x1h; have x0l := (hF.at 0 rfl).lo; have x0h := (hF.at 0 rfl).hi; have x1l := (hF.at 1 rfl).lo; have x1h := (hF.at 1 rfl).hi; have x2l := (hF.at 2 rfl).lo; have x2h := (hF.at 2 rfl).hi; have y1 := (hF.at 1 rfl).fl; have y2 := (hF.at 1 rfl).fh; have y3 := (hF.at 1 rfl).lo; have y4 := (hF.at 1 rfl).hi; replace hF := hF.put 1 rfl lo hi rfl))
  clear x0l x0h x1l x1h x2l x2h y1 y2 y3 y4
  refine wp_loop_rounds 1 ?_
  rw [rounds_succ]
  have y1 := (hF.at 1 rfl).fl
  have y2 := (hF.at 1 rfl).fh
  have y3 := (hF.at 1 rfl).lo
  have y4 := (hF.at 1 rfl).hi
  replace hF := hF.put 1 rfl 0 0 rfl
  have x2l := (hF.at 2 rfl).lo
  have x2h := (hF.at 2 rfl).hi
  go_wp2_with (first | (go_at_call 13; refine (HR _ (hF.li hl)).out.mono ?_; rintro e wn ⟨rfl, hb⟩; replace hF := hF.step hb; clear hb; clear x2l x2h; have y1 := (hF.at 0 rfl).fl; have y2 := (hF.at 0 rfl).fh; have y3 := (hF.at 0 rfl).lo; have y4 := (hF.at 0 rfl).hi; replace hF := hF.put 0 rfl 0 0 rfl; have x0l := (hF.at 0 rfl).lo; have x0h := (hF.at 0 rfl).hi; have x1l := (hF.at 1 rfl).lo; have x1h := (hF.at 1 rfl).hi) | (go_at_call 8; refine (hid (same_any _ _ _ (hg.below (B := w.heap.size) hF.below hg.size))).out.mono ?_; rintro e wn ⟨rfl, hb⟩; replace hF := hF.step hb; clear hb; clear x0l x0h x1l x1h; have x0l := (hF.at 0 rfl).lo; have x0h := (hF.at 0 rfl).hi; have x1l := (hF.at 1 rfl).lo; have x1h := (hF.at 1 rfl).hi))
  go_returns
  exact ⟨rfl, hF.below⟩

set_option maxRecDepth 100000 in
set_option maxHeartbeats 8000000 in
theorem walk_good (p : List Int) (v : Value) (lo hi steps : Int) (w : World) (hl : Li w.heap.size w v p) (hg : HasErr w) (ho : Um.over p lo hi = 0) (h1 : ¬ steps < 0) (h2 : ¬ 20 < steps) :
    Calls Tryd.prog 4 #[v, .agg #[.int .i64 lo, .int .i64 hi], .int .i64 steps] w fun e w' => e = .returned (.bool true) ∧ Below w.heap.size w w' := by
  have v0 := errV_none
  have q1 := errG
  have q2 := errGn
  have q3 := errE
  have q4 := errN
  have HO := fun w hl => hid (rOver_any p v lo hi w hl)
  have HS := fun w hl => hid (step_any p v lo hi w hl)
  have HR := fun w hl => hid (run_any p v lo hi steps w hl)
  have HN := fun w hl => hid (rNewton_any p v lo hi w hl ho)
  rw [is_over ho] at HS
  rw [run_is (by omega) ho] at HR
  have HOV := hid ho
  have HG := hid ho
  have kG : (Um.over p lo hi == 0) = true := by simpa using ho
  have t1 : decide (steps < 0) = false := by simpa using h1
  have t2 : decide (20 < steps) = false := by simpa using h2
  clear ho
  generalize Um.newtR lo hi p = N at *
  have hF := (Fr.start w).push lo hi rfl
  have x0l := (hF.at 0 rfl).lo
  have x0h := (hF.at 0 rfl).hi
  obtain ⟨a0, cap0, rfl, -⟩ := (id hl)
  go_enter Tryd.func4, Tryd.ntmps4
  go_wp2_with (first | (go_at_call 10; refine (HO _ (hF.li hl)).out.mono ?_; rintro e wo ⟨rfl, hb⟩; replace hF := hF.step hb; clear hb; clear x0l x0h; replace hF := hF.push 0 0 rfl; have x1l := (hF.at 1 rfl).lo; have x1h := (hF.at 1 rfl).hi) | (go_at_call 11; refine (HN _ (hF.li hl)).out.mono ?_; rintro e wn ⟨rfl, hb⟩; replace hF := hF.step hb; clear hb; clear x1l x1h; have y1 := (hF.at 0 rfl).fl; have y2 := (hF.at 0 rfl).fh; have y3 := (hF.at 0 rfl).lo; have y4 := (hF.at 0 rfl).hi; replace hF := hF.put 0 rfl N.1 N.2.1 rfl; have x1l := (hF.at 1 rfl).lo; have x1h := (hF.at 1 rfl).hi) | (go_at_call 12; refine (HS _ (hF.li hl)).out.mono ?_; rintro e wp ⟨rfl, hb⟩; replace hF := hF.step hb; clear hb; clear x1l x1h; replace hF := hF.push N.1 N.2.1 rfl; have x0l := (hF.at 0 rfl).lo; have x0h := (hF.at 0 rfl).hi; have x1l := (hF.at 1 rfl).lo; have x1h := (hF.at 1 rfl).hi) | (go_at_call 8; refine (hid (same_any _ _ _ (hg.below (B := w.heap.size) hF.below hg.size))).out.mono ?_; rintro e wn ⟨rfl, hb⟩; replace hF := hF.step hb; clear hb; clear x0l x0h x1l x1h; have x0l := (hF.at 0 rfl).lo; have x0h := (hF.at 0 rfl).hi; have x1l := (hF.at 1 rfl).lo; have x1h := (hF.at 1 rfl).hi; have x2l := (hF.at 2 rfl).lo; have x2h := (hF.at 2 rfl).hi; have y1 := (hF.at 1 rfl).fl; have y2 := (hF.at 1 rfl).fh; have y3 := (hF.at 1 rfl).lo; have y4 := (hF.at 1 rfl).hi; replace hF := hF.put 1 rfl lo hi rfl))
  clear x0l x0h x1l x1h x2l x2h y1 y2 y3 y4 HN HS HO
  generalize wp.heap.size = B2 at *
  generalize wo.heap.size = B1 at *
  go_loopw [7, 13] (fun g i wr => ∃ k : Nat, (k : Int) ≤ steps ∧ i = .int .i64 k ∧ g = .int .i64 (Um.stR lo hi p k).2.2 ∧ Fr w wr [(B2, N.1, N.2.1), (B1, (Um.stR lo hi p k).1, (Um.stR lo hi p k).2.1), (w.heap.size, lo, hi)]) (fun _ i _ => steps.toNat - (intOf i).toNat)
  case atStart => exact ⟨0, by omega, rfl, by rw [HG.out]; rfl, hF⟩
  case round =>
    clear hF
    obtain ⟨k, hk, rfl, rfl, hF⟩ := hrel
    by_cases hA : (Um.stR lo hi p k).2.2 = 0
    · have kA : ((Um.stR lo hi p k).2.2 == 0) = true := by simpa using hA
      have jA : ((Um.stR lo hi p k).2.2 != 0) = false := by simpa using hA
      by_cases hkl : (k : Int) < steps
      · have hkk : decide ((k : Int) < steps) = true := by simpa using hkl
        have HN2 := fun w hl => hid (rNewton_any p (.slice a0 p.length cap0) (Um.stR lo hi p k).1 (Um.stR lo hi p k).2.1 w hl (Um.st_over HOV.out hA))
        have HQ : Hid (Um.stR lo hi p (k + 1) = Um.newtR (Um.stR lo hi p k).1 (Um.stR lo hi p k).2.1 p) := by rw [Um.st_succ, if_pos hA]; exact hid rfl
        clear hA HOV HR
        generalize Um.stR lo hi p k = A at *
        generalize Um.newtR A.1 A.2.1 p = M at *
        have x1l := (hF.at 1 rfl).lo
        have x1h := (hF.at 1 rfl).hi
        go_wp2_with (go_at_call 11; refine (HN2 _ (hF.li hl)).out.mono ?_; rintro e wn ⟨rfl, hb⟩; replace hF := hF.step hb; clear hb; clear x1l x1h; have y1 := (hF.at 1 rfl).fl; have y2 := (hF.at 1 rfl).fh; have y3 := (hF.at 1 rfl).lo; have y4 := (hF.at 1 rfl).hi; replace hF := hF.put 1 rfl M.1 M.2.1 rfl)
        exact ⟨⟨k + 1, by omega, by simp, by rw [HQ.out], by rw [HQ.out]; exact hF⟩, by simp [intOf]; omega⟩
      · have hkk : decide ((k : Int) < steps) = false := by simpa using hkl
        obtain rfl : steps = k := by omega
        rw [Int.toNat_natCast] at HR
        clear hA HOV
        generalize Um.stR lo hi p k = A at *
        have x2l := (hF.at 2 rfl).lo
        have x2h := (hF.at 2 rfl).hi
        go_wp2_with (first | (go_at_call 13; refine (HR _ (hF.li hl)).out.mono ?_; rintro e wn ⟨rfl, hb⟩; replace hF := hF.step hb; clear hb; clear x2l x2h; have y1 := (hF.at 0 rfl).fl; have y2 := (hF.at 0 rfl).fh; have y3 := (hF.at 0 rfl).lo; have y4 := (hF.at 0 rfl).hi; replace hF := hF.put 0 rfl A.1 A.2.1 rfl; have x0l := (hF.at 0 rfl).lo; have x0h := (hF.at 0 rfl).hi; have x1l := (hF.at 1 rfl).lo; have x1h := (hF.at 1 rfl).hi) | (go_at_call 8; refine (hid (same_any _ _ _ (hg.below (B := w.heap.size) hF.below hg.size))).out.mono ?_; rintro e wn ⟨rfl, hb⟩; replace hF := hF.step hb; clear hb; clear x0l x0h x1l x1h; have x0l := (hF.at 0 rfl).lo; have x0h := (hF.at 0 rfl).hi; have x1l := (hF.at 1 rfl).lo; have x1h := (hF.at 1 rfl).hi))
        go_returns
        exact ⟨rfl, hF.below⟩
    · have kA : ((Um.stR lo hi p k).2.2 == 0) = false := by simpa using hA
      have jA : ((Um.stR lo hi p k).2.2 != 0) = true := by simpa using hA
      rw [st_rest hk hA] at HR
      clear hA HOV
      generalize Um.stR lo hi p k = A at *
      have y1 := (hF.at 1 rfl).fl
      have y2 := (hF.at 1 rfl).fh
      have y3 := (hF.at 1 rfl).lo
      have y4 := (hF.at 1 rfl).hi
      replace hF := hF.put 1 rfl 0 0 rfl
      have x2l := (hF.at 2 rfl).lo
      have x2h := (hF.at 2 rfl).hi
      by_cases hkl : (k : Int) < steps
      · have hkk : decide ((k : Int) < steps) = true := by simpa using hkl
        go_wp2_with (first | (go_at_call 13; refine (HR _ (hF.li hl)).out.mono ?_; rintro e wn ⟨rfl, hb⟩; replace hF := hF.step hb; clear hb; clear x2l x2h; have y1 := (hF.at 0 rfl).fl; have y2 := (hF.at 0 rfl).fh; have y3 := (hF.at 0 rfl).lo; have y4 := (hF.at 0 rfl).hi; replace hF := hF.put 0 rfl 0 0 rfl; have x0l := (hF.at 0 rfl).lo; have x0h := (hF.at 0 rfl).hi; have x1l := (hF.at 1 rfl).lo; have x1h := (hF.at 1 rfl).hi) | (go_at_call 8; refine (hid (same_any _ _ _ (hg.below (B := w.heap.size) hF.below hg.size))).out.mono ?_; rintro e wn ⟨rfl, hb⟩; replace hF := hF.step hb; clear hb; clear x0l x0h x1l x1h; have x0l := (hF.at 0 rfl).lo; have x0h := (hF.at 0 rfl).hi; have x1l := (hF.at 1 rfl).lo; have x1h := (hF.at 1 rfl).hi))
        go_returns
        exact ⟨rfl, hF.below⟩
      · have hkk : decide ((k : Int) < steps) = false := by simpa using hkl
        go_wp2_with (first | (go_at_call 13; refine (HR _ (hF.li hl)).out.mono ?_; rintro e wn ⟨rfl, hb⟩; replace hF := hF.step hb; clear hb; clear x2l x2h; have y1 := (hF.at 0 rfl).fl; have y2 := (hF.at 0 rfl).fh; have y3 := (hF.at 0 rfl).lo; have y4 := (hF.at 0 rfl).hi; replace hF := hF.put 0 rfl 0 0 rfl; have x0l := (hF.at 0 rfl).lo; have x0h := (hF.at 0 rfl).hi; have x1l := (hF.at 1 rfl).lo; have x1h := (hF.at 1 rfl).hi) | (go_at_call 8; refine (hid (same_any _ _ _ (hg.below (B := w.heap.size) hF.below hg.size))).out.mono ?_; rintro e wn ⟨rfl, hb⟩; replace hF := hF.step hb; clear hb; clear x0l x0h x1l x1h; have x0l := (hF.at 0 rfl).lo; have x0h := (hF.at 0 rfl).hi; have x1l := (hF.at 1 rfl).lo; have x1h := (hF.at 1 rfl).hi))
        go_returns
        exact ⟨rfl, hF.below⟩

theorem walk (p : List Int) (v : Value) (lo hi steps : Int) (w : World) (hg : HasErr w) (hl : Li w.heap.size w v p) :
    Calls Tryd.prog 4 #[v, .agg #[.int .i64 lo, .int .i64 hi], .int .i64 steps] w fun e w' => e = .returned (.bool true) ∧ Below w.heap.size w w' := by
  by_cases ho : Um.over p lo hi = 0
  · by_cases h1 : steps < 0
    · exact walk_good_low p v lo hi steps w hl hg ho h1
    · by_cases h2 : 20 < steps
      · exact walk_good_high p v lo hi steps w hl hg ho h1 h2
      · exact walk_good p v lo hi steps w hl hg ho h1 h2
  · by_cases h1 : steps < 0
    · exact walk_over_low p v lo hi steps w hl hg ho h1
    · by_cases h2 : 20 < steps
      · exact walk_over_high p v lo hi steps w hl hg ho h1 h2
      · by_cases h3 : 0 < steps
        · exact walk_over_some p v lo hi steps w hl hg ho h1 h2 h3
        · exact walk_over_none p v lo hi steps w hl hg ho h1 h2 h3
end Go.Proofs.YthoiiffdigkodaaDoor.NTells
