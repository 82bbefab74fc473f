/-
  The walk over 'spanlaw4.StepNone': for all a, n it returns true.
-/
import Derived.Test.YtmgabhphnafokaaStep
import Derived.Test.YtmgabhphnafokaaSnone
import Derived.Test.YtmgabhphnafokaaRefSplit
import Derived.Deep.CutRange
namespace Go.Proofs.Ytmgabhphnafokaa.StNone
set_option linter.unusedSimpArgs false
open Go.RowKit

set_option maxRecDepth 100000 in
set_option maxHeartbeats 16000000 in
theorem walk_wrong (lo hi n : Int) (w : World) (h : ¬ Um.chk lo hi = 0) :
    Calls Try.prog 7 #[.agg #[.int .i64 lo, .int .i64 hi], .int .i64 n] w fun e w' => e = .returned (.bool true) ∧ Below w.heap.size w w' := by
  have v0 := errV_none
  have q1 := errG
  have q2 := errGn
  have q3 := errE
  have q4 := errN
  have hF := (Fr.start w).push lo hi rfl
  have x0l := (hF.at 0 rfl).lo
  have x0h := (hF.at 0 rfl).hi
  have HOF := fun v0 v1 v w h1 h2 h3 => hid (sof_any sNone v0 [(0, 0)] v1 [(lo, hi)] v w h1 h2 h3)
  have HPT := fun v0 v1 v t w h1 h2 h3 h4 => hid (spoint_any sNone v0 [(0, 0)] v1 [n] v [0] t w h1 h2 h3 h4)
  have HCK := fun w => hid (check_any lo hi w)
  have HBX := fun u v w h1 h2 => hid (box_same [(lo, hi)] u v w h1 h2 (by simp))
  rw [none_of_not h] at HOF
  have k : (Um.chk lo hi != 0) = true := by simpa using h
  clear h HBX
  generalize Um.chk lo hi = K at *
  generalize Um.movAll sNone [(0, 0)] [n] [0] = M at *
  go_enter Try.func7, Try.ntmps7
  go_upto_region 2 with fail
  have hbx := lit_ls (w := w.alloc (.cells #[.int .i64 lo, .int .i64 hi] 29)) (T := 29) (b := w.heap.size + 1) (cap := 1) lo hi (by simp) (by decide)
  replace hF := hF.alloc (.cells #[.int .i64 lo, .int .i64 hi] 29)
  clear x0l x0h
  go_upto_region 3 with (first | (go_at_call 19; refine (HOF _ _ _ _ hf hp hbx).out.mono ?_; rintro e wn ⟨r1, rfl, hy, hb⟩; replace hbx := hbx.step hb; replace hF := hF.step hb; clear hb; obtain ⟨s1, d1, rfl, -⟩ := (id hy); clear HOF hf hp) | (go_at_call 21; refine (hid (none_any _)).out.mono ?_; rintro e wn ⟨v0, v1, rfl, hf, hp, hb⟩; replace hbx := hbx.step hb; replace hF := hF.step hb; clear hb))
  go_upto_region 4 with (first | (go_at_call 20; refine (HPT _ _ _ _ _ ((hf.alloc _).alloc _) ((hp.alloc _).alloc _) ((Li.one' n _ (by simp)).alloc _) (Li.one' 0 _ (by simp))).out.mono ?_; rintro e wn ⟨r2, rfl, hz, hb⟩; replace hy := ((hy.alloc _).alloc _).step hb; replace hbx := ((hbx.alloc _).alloc _).step hb; replace hF := ((hF.alloc _).alloc _).step hb; clear hb HPT hf hp; obtain ⟨s2, d2, rfl, -⟩ := (id hz); have x0l := (hF.at 0 rfl).lo; have x0h := (hF.at 0 rfl).hi) | (go_at_call 21; refine (hid (none_any _)).out.mono ?_; rintro e wn ⟨v2, v3, rfl, hf, hp, hb⟩; replace hy := hy.step hb; replace hbx := hbx.step hb; replace hF := hF.step hb; clear hb))
  go_wp2_with (go_at_call 22; refine (HCK _).out.mono ?_; rintro e wn ⟨rfl, rfl⟩; )
  go_returns
  exact ⟨rfl, (hF.alloc _).below⟩

set_option maxRecDepth 100000 in
set_option maxHeartbeats 16000000 in
theorem walk_in (lo hi n : Int) (w : World) (h : Um.chk lo hi = 0) (hn : Um.litP n) :
    Calls Try.prog 7 #[.agg #[.int .i64 lo, .int .i64 hi], .int .i64 n] w fun e w' => e = .returned (.bool true) ∧ Below w.heap.size w w' := by
  have v0 := errV_none
  have q1 := errG
  have q2 := errGn
  have q3 := errE
  have q4 := errN
  have hF := (Fr.start w).push lo hi rfl
  have x0l := (hF.at 0 rfl).lo
  have x0h := (hF.at 0 rfl).hi
  have HOF := fun v0 v1 v w h1 h2 h3 => hid (sof_any sNone v0 [(0, 0)] v1 [(lo, hi)] v w h1 h2 h3)
  have HPT := fun v0 v1 v t w h1 h2 h3 h4 => hid (spoint_any sNone v0 [(0, 0)] v1 [n] v [0] t w h1 h2 h3 h4)
  have HCK := fun w => hid (check_any lo hi w)
  have HBX := fun u v w h1 h2 => hid (box_same [(lo, hi)] u v w h1 h2 (by simp))
  rw [none_of h] at HOF
  rw [none_mov hn] at HPT
  clear h hn
  go_enter Try.func7, Try.ntmps7
  go_upto_region 2 with fail
  have hbx := lit_ls (w := w.alloc (.cells #[.int .i64 lo, .int .i64 hi] 29)) (T := 29) (b := w.heap.size + 1) (cap := 1) lo hi (by simp) (by decide)
  replace hF := hF.alloc (.cells #[.int .i64 lo, .int .i64 hi] 29)
  clear x0l x0h
  go_upto_region 3 with (first | (go_at_call 19; refine (HOF _ _ _ _ hf hp hbx).out.mono ?_; rintro e wn ⟨r1, rfl, hy, hb⟩; replace hbx := hbx.step hb; replace hF := hF.step hb; clear hb; obtain ⟨s1, d1, rfl, -⟩ := (id hy); clear HOF hf hp) | (go_at_call 21; refine (hid (none_any _)).out.mono ?_; rintro e wn ⟨v0, v1, rfl, hf, hp, hb⟩; replace hbx := hbx.step hb; replace hF := hF.step hb; clear hb))
  go_upto_region 4 with (first | (go_at_call 20; refine (HPT _ _ _ _ _ ((hf.alloc _).alloc _) ((hp.alloc _).alloc _) ((Li.one' n _ (by simp)).alloc _) (Li.one' 0 _ (by simp))).out.mono ?_; rintro e wn ⟨r2, rfl, hz, hb⟩; replace hy := ((hy.alloc _).alloc _).step hb; replace hbx := ((hbx.alloc _).alloc _).step hb; replace hF := ((hF.alloc _).alloc _).step hb; clear hb HPT hf hp; obtain ⟨b2, o2, d2, rfl, hlt2, hc2⟩ := hz.out (by simp); have zn : wn.cell? ⟨b2, o2, none⟩ = some (.int .i64 n) := hc2 0 (by simp); clear hc2) | (go_at_call 21; refine (hid (none_any _)).out.mono ?_; rintro e wn ⟨v2, v3, rfl, hf, hp, hb⟩; replace hy := hy.step hb; replace hbx := hbx.step hb; replace hF := hF.step hb; clear hb))
  go_wp2_with (go_at_call 13; refine (HBX _ _ _ hy hbx).out.mono ?_; rintro e wn ⟨rfl, hb⟩; have zn := (hb.cell (p := ⟨b2, o2, none⟩) hlt2).trans zn; replace hF := hF.step hb; clear hb; clear hy hbx HBX)
  go_returns
  exact ⟨rfl, hF.below⟩

set_option maxRecDepth 100000 in
set_option maxHeartbeats 16000000 in
theorem walk_low (lo hi n : Int) (w : World) (h : Um.chk lo hi = 0) (hn : n < -20000) :
    Calls Try.prog 7 #[.agg #[.int .i64 lo, .int .i64 hi], .int .i64 n] w fun e w' => e = .returned (.bool true) ∧ Below w.heap.size w w' := by
  have v0 := errV_none
  have q1 := errG
  have q2 := errGn
  have q3 := errE
  have q4 := errN
  have hF := (Fr.start w).push lo hi rfl
  have x0l := (hF.at 0 rfl).lo
  have x0h := (hF.at 0 rfl).hi
  have HOF := fun v0 v1 v w h1 h2 h3 => hid (sof_any sNone v0 [(0, 0)] v1 [(lo, hi)] v w h1 h2 h3)
  have HPT := fun v0 v1 v t w h1 h2 h3 h4 => hid (spoint_any sNone v0 [(0, 0)] v1 [n] v [0] t w h1 h2 h3 h4)
  have HCK := fun w => hid (check_any lo hi w)
  have HBX := fun u v w h1 h2 => hid (box_same [(lo, hi)] u v w h1 h2 (by simp))
  rw [none_of h] at HOF
  rw [none_mov_not (by unfold Um.litP; omega)] at HPT
  have t1 : decide (n < -20000) = true := by simpa using hn
  clear h hn
  go_enter Try.func7, Try.ntmps7
  go_upto_region 2 with fail
  have hbx := lit_ls (w := w.alloc (.cells #[.int .i64 lo, .int .i64 hi] 29)) (T := 29) (b := w.heap.size + 1) (cap := 1) lo hi (by simp) (by decide)
  replace hF := hF.alloc (.cells #[.int .i64 lo, .int .i64 hi] 29)
  clear x0l x0h
  go_upto_region 3 with (first | (go_at_call 19; refine (HOF _ _ _ _ hf hp hbx).out.mono ?_; rintro e wn ⟨r1, rfl, hy, hb⟩; replace hbx := hbx.step hb; replace hF := hF.step hb; clear hb; obtain ⟨s1, d1, rfl, -⟩ := (id hy); clear HOF hf hp) | (go_at_call 21; refine (hid (none_any _)).out.mono ?_; rintro e wn ⟨v0, v1, rfl, hf, hp, hb⟩; replace hbx := hbx.step hb; replace hF := hF.step hb; clear hb))
  go_upto_region 4 with (first | (go_at_call 20; refine (HPT _ _ _ _ _ ((hf.alloc _).alloc _) ((hp.alloc _).alloc _) ((Li.one' n _ (by simp)).alloc _) (Li.one' 0 _ (by simp))).out.mono ?_; rintro e wn ⟨r2, rfl, hz, hb⟩; replace hy := ((hy.alloc _).alloc _).step hb; replace hbx := ((hbx.alloc _).alloc _).step hb; replace hF := ((hF.alloc _).alloc _).step hb; clear hb HPT hf hp; obtain ⟨s2, d2, rfl, -⟩ := (id hz)) | (go_at_call 21; refine (hid (none_any _)).out.mono ?_; rintro e wn ⟨v2, v3, rfl, hf, hp, hb⟩; replace hy := hy.step hb; replace hbx := hbx.step hb; replace hF := hF.step hb; clear hb))
  go_wp2_with (go_at_call 13; refine (HBX _ _ _ hy hbx).out.mono ?_; rintro e wn ⟨rfl, hb⟩; replace hz := (hz.keep hb).wide hb.size; replace hF := hF.step hb; clear hb; clear hy hbx HBX)
  go_returns
  exact ⟨rfl, hF.below⟩

set_option maxRecDepth 100000 in
set_option maxHeartbeats 16000000 in
theorem walk_high (lo hi n : Int) (w : World) (h : Um.chk lo hi = 0) (hn1 : ¬ n < -20000) (hn : 20000 < n) :
    Calls Try.prog 7 #[.agg #[.int .i64 lo, .int .i64 hi], .int .i64 n] w fun e w' => e = .returned (.bool true) ∧ Below w.heap.size w w' := by
  have v0 := errV_none
  have q1 := errG
  have q2 := errGn
  have q3 := errE
  have q4 := errN
  have hF := (Fr.start w).push lo hi rfl
  have x0l := (hF.at 0 rfl).lo
  have x0h := (hF.at 0 rfl).hi
  have HOF := fun v0 v1 v w h1 h2 h3 => hid (sof_any sNone v0 [(0, 0)] v1 [(lo, hi)] v w h1 h2 h3)
  have HPT := fun v0 v1 v t w h1 h2 h3 h4 => hid (spoint_any sNone v0 [(0, 0)] v1 [n] v [0] t w h1 h2 h3 h4)
  have HCK := fun w => hid (check_any lo hi w)
  have HBX := fun u v w h1 h2 => hid (box_same [(lo, hi)] u v w h1 h2 (by simp))
  rw [none_of h] at HOF
  rw [none_mov_not (by unfold Um.litP; omega)] at HPT
  have t1 : decide (n < -20000) = false := decide_eq_false hn1
  have t2 : decide (20000 < n) = true := decide_eq_true hn
  clear h hn hn1
  go_enter Try.func7, Try.ntmps7
  go_upto_region 2 with fail
  have hbx := lit_ls (w := w.alloc (.cells #[.int .i64 lo, .int .i64 hi] 29)) (T := 29) (b := w.heap.size + 1) (cap := 1) lo hi (by simp) (by decide)
  replace hF := hF.alloc (.cells #[.int .i64 lo, .int .i64 hi] 29)
  clear x0l x0h
  go_upto_region 3 with (first | (go_at_call 19; refine (HOF _ _ _ _ hf hp hbx).out.mono ?_; rintro e wn ⟨r1, rfl, hy, hb⟩; replace hbx := hbx.step hb; replace hF := hF.step hb; clear hb; obtain ⟨s1, d1, rfl, -⟩ := (id hy); clear HOF hf hp) | (go_at_call 21; refine (hid (none_any _)).out.mono ?_; rintro e wn ⟨v0, v1, rfl, hf, hp, hb⟩; replace hbx := hbx.step hb; replace hF := hF.step hb; clear hb))
  go_upto_region 4 with (first | (go_at_call 20; refine (HPT _ _ _ _ _ ((hf.alloc _).alloc _) ((hp.alloc _).alloc _) ((Li.one' n _ (by simp)).alloc _) (Li.one' 0 _ (by simp))).out.mono ?_; rintro e wn ⟨r2, rfl, hz, hb⟩; replace hy := ((hy.alloc _).alloc _).step hb; replace hbx := ((hbx.alloc _).alloc _).step hb; replace hF := ((hF.alloc _).alloc _).step hb; clear hb HPT hf hp; obtain ⟨s2, d2, rfl, -⟩ := (id hz)) | (go_at_call 21; refine (hid (none_any _)).out.mono ?_; rintro e wn ⟨v2, v3, rfl, hf, hp, hb⟩; replace hy := hy.step hb; replace hbx := hbx.step hb; replace hF := hF.step hb; clear hb))
  go_wp2_with (go_at_call 13; refine (HBX _ _ _ hy hbx).out.mono ?_; rintro e wn ⟨rfl, hb⟩; replace hz := (hz.keep hb).wide hb.size; replace hF := hF.step hb; clear hb; clear hy hbx HBX)
  go_returns
  exact ⟨rfl, hF.below⟩

theorem walk (lo hi n : Int) (w : World) :
    Calls Try.prog 7 #[.agg #[.int .i64 lo, .int .i64 hi], .int .i64 n] w fun e w' => e = .returned (.bool true) ∧ Below w.heap.size w w' := by
  by_cases h : Um.chk lo hi = 0
  case neg => exact walk_wrong lo hi n w h
  by_cases h1 : n < -20000
  · exact walk_low lo hi n w h h1
  · by_cases h2 : 20000 < n
    · exact walk_high lo hi n w h h1 h2
    · exact walk_in lo hi n w h ⟨by omega, by omega⟩
end Go.Proofs.Ytmgabhphnafokaa.StNone
