/-
  The walk over 'spanlaw4.NewtonLine': for all n, x it returns true.
-/
import Derived.Test.YthoiiffdigkodaaNewton
namespace Go.Proofs.Ythoiiffdigkodaa.NLine
set_option linter.unusedSimpArgs false
open Go.RowKit

theorem wide {n : Int} (r : (Lit.int .i64 n).wf = true) : -9223372036854775808 ≤ n ∧ n ≤ 9223372036854775807 := by
  simp [Lit.wf] at r
  have a : IntKind.i64.min = -9223372036854775808 := rfl
  have b : IntKind.i64.max = 9223372036854775807 := rfl
  omega
theorem neg_may {n : Int} (h : Um.may n = true) : IntKind.i64.wrap (-n) = -n := by
  rw [Um.may_iff] at h; rw [IntKind.wrap_i64]; omega
theorem neg_not {n : Int} (h1 : -9223372036854775808 ≤ n) (h2 : n ≤ 9223372036854775807) (h : ¬ Um.may n = true) : ¬ Um.may (IntKind.i64.wrap (-n)) = true := by
  rw [Um.may_iff] at h ⊢; rw [IntKind.wrap_i64]; omega
theorem not_over {q lo hi : Int} (h : ¬ Um.may q = true) : ¬ (Um.newtAll [q, 1000] lo hi).2.2 = 0 := by
  have a : ¬ Um.over [q, 1000] lo hi = 0 := fun e => h ((Um.pchk_ok.1 (Um.over_ok.1 e).1).2.2 q (by simp))
  unfold Um.newtAll
  rw [if_neg a]
  exact a
/-- Where it is told it is the one number; where it is not, something is wrong, or it is not in it, or too far. -/
theorem line {n lo hi : Int} (h : Um.may n = true) :
    Um.newtAll [-n, 1000] lo hi = (n, n, 0) ∨ (¬ (Um.newtAll [-n, 1000] lo hi).2.2 = 0 ∧ (Um.chk lo hi = 0 → lo ≤ n → n ≤ hi → -400000000 ≤ n → n ≤ 400000000 → -400000000 ≤ lo → hi ≤ 400000000 → False)) := by
  have hp : Um.pchk [-n, 1000] = 0 := by
    refine Um.pchk_ok.2 ⟨by simp, by simp, fun c hc => ?_⟩
    simp at hc
    rw [Um.may_iff] at h ⊢
    rcases hc with rfl | rfl <;> omega
  unfold Um.newtAll
  by_cases ho : Um.over [-n, 1000] lo hi = 0
  · rw [if_pos ho, Um.newt_line ho]
    have hl := (Um.chk_ok.1 (Um.over_ok.1 ho).2).2.2
    obtain ⟨g1, g2, -, -⟩ := Um.mid_has hl
    by_cases hm : Um.may (Um.midR lo hi + -n) = true
    · rw [if_pos hm]
      by_cases hn : lo ≤ n ∧ n ≤ hi
      · rw [if_pos hn]; exact .inl rfl
      · rw [if_neg hn]; exact .inr ⟨by decide, fun _ a b _ _ _ _ => hn ⟨a, b⟩⟩
    · rw [if_neg hm]
      refine .inr ⟨by decide, fun _ a b c d e f => hm ?_⟩
      rw [Um.may_iff]; omega
  · rw [if_neg ho]
    exact .inr ⟨ho, fun hc _ _ _ _ _ _ => ho (Um.over_ok.2 ⟨hp, hc⟩)⟩

set_option maxRecDepth 100000 in
set_option maxHeartbeats 8000000 in
theorem walk_ok (n lo hi q : Int) (w : World) (hq : IntKind.i64.wrap (-n) = q) (h : Um.newtAll [q, 1000] lo hi = (n, n, 0)) :
    Calls Try.prog 6 #[.int .i64 n, .agg #[.int .i64 lo, .int .i64 hi]] w fun e w' => e = .returned (.bool true) ∧ Below w.heap.size w w' := by
  have v0 := errV_none
  have q1 := errG
  have q2 := errGn
  have q3 := errE
  have q4 := errN
  have HS := fun v w hl => hid (step_any [q, 1000] v lo hi w hl)
  rw [h] at HS
  clear h
  have hF := (Fr.start w).push lo hi rfl
  have x0l := (hF.at 0 rfl).lo
  have x0h := (hF.at 0 rfl).hi
  go_enter Try.func6, Try.ntmps6
  go_wp2_with (first | (go_at_call 17; refine (HS _ _ (Li.lit (p := [q, 1000]) (by simp) two_cells)).out.mono ?_; rintro e wn ⟨rfl, hb⟩; replace hF := (hF.alloc _).step hb; clear hb; clear x0l x0h; clear HS; replace hF := hF.push n n rfl; have x0l := (hF.at 0 rfl).lo; have x0h := (hF.at 0 rfl).hi))
  go_returns
  exact ⟨rfl, hF.below⟩

set_option maxRecDepth 100000 in
set_option maxHeartbeats 8000000 in
theorem walk_chk (n lo hi q : Int) (w : World) (hq : IntKind.i64.wrap (-n) = q) (h : ¬ (Um.newtAll [q, 1000] lo hi).2.2 = 0) (hc : ¬ Um.chk lo hi = 0) :
    Calls Try.prog 6 #[.int .i64 n, .agg #[.int .i64 lo, .int .i64 hi]] w fun e w' => e = .returned (.bool true) ∧ Below w.heap.size w w' := by
  have v0 := errV_none
  have q1 := errG
  have q2 := errGn
  have q3 := errE
  have q4 := errN
  have HS := fun v w hl => hid (step_any [q, 1000] v lo hi w hl)
  have HC := fun w => hid (check_any lo hi w)
  have k : ((Um.newtAll [q, 1000] lo hi).2.2 != 0) = true := by simpa using h
  clear h
  generalize Um.newtAll [q, 1000] lo hi = S at *
  have kc : (Um.chk lo hi != 0) = true := by simpa using hc
  clear hc
  generalize Um.chk lo hi = K at *
  have hF := (Fr.start w).push lo hi rfl
  have x0l := (hF.at 0 rfl).lo
  have x0h := (hF.at 0 rfl).hi
  go_enter Try.func6, Try.ntmps6
  go_wp2_with (first | (go_at_call 17; refine (HS _ _ (Li.lit (p := [q, 1000]) (by simp) two_cells)).out.mono ?_; rintro e wn ⟨rfl, hb⟩; replace hF := (hF.alloc _).step hb; clear hb; clear x0l x0h; clear HS; replace hF := hF.push S.1 S.2.1 rfl; have x1l := (hF.at 1 rfl).lo; have x1h := (hF.at 1 rfl).hi) | (go_at_call 11; refine (HC _).out.mono ?_; rintro e wn ⟨rfl, rfl⟩; replace hF := hF.alloc (.cells #[.int .i64 lo, .int .i64 hi] 24); clear x1l x1h; have x1l := (hF.at 1 rfl).lo; have x1h := (hF.at 1 rfl).hi))
  go_returns
  exact ⟨rfl, hF.below⟩

set_option maxRecDepth 100000 in
set_option maxHeartbeats 8000000 in
theorem walk_out0 (n lo hi q : Int) (w : World) (hq : IntKind.i64.wrap (-n) = q) (h : ¬ (Um.newtAll [q, 1000] lo hi).2.2 = 0) (hc : Um.chk lo hi = 0) (n1 : n < lo) :
    Calls Try.prog 6 #[.int .i64 n, .agg #[.int .i64 lo, .int .i64 hi]] w fun e w' => e = .returned (.bool true) ∧ Below w.heap.size w w' := by
  have v0 := errV_none
  have q1 := errG
  have q2 := errGn
  have q3 := errE
  have q4 := errN
  have HS := fun v w hl => hid (step_any [q, 1000] v lo hi w hl)
  have HC := fun w => hid (check_any lo hi w)
  have k : ((Um.newtAll [q, 1000] lo hi).2.2 != 0) = true := by simpa using h
  clear h
  generalize Um.newtAll [q, 1000] lo hi = S at *
  have kc : (Um.chk lo hi != 0) = false := by simpa using hc
  clear hc
  generalize Um.chk lo hi = K at *
  have tn1 : decide (n < lo) = true := by simpa using n1
  clear n1
  have hF := (Fr.start w).push lo hi rfl
  have x0l := (hF.at 0 rfl).lo
  have x0h := (hF.at 0 rfl).hi
  go_enter Try.func6, Try.ntmps6
  go_wp2_with (first | (go_at_call 17; refine (HS _ _ (Li.lit (p := [q, 1000]) (by simp) two_cells)).out.mono ?_; rintro e wn ⟨rfl, hb⟩; replace hF := (hF.alloc _).step hb; clear hb; clear x0l x0h; clear HS; replace hF := hF.push S.1 S.2.1 rfl; have x1l := (hF.at 1 rfl).lo; have x1h := (hF.at 1 rfl).hi) | (go_at_call 11; refine (HC _).out.mono ?_; rintro e wn ⟨rfl, rfl⟩; replace hF := hF.alloc (.cells #[.int .i64 lo, .int .i64 hi] 24); clear x1l x1h; have x1l := (hF.at 1 rfl).lo; have x1h := (hF.at 1 rfl).hi))
  go_returns
  exact ⟨rfl, hF.below⟩

set_option maxRecDepth 100000 in
set_option maxHeartbeats 8000000 in
theorem walk_out1 (n lo hi q : Int) (w : World) (hq : IntKind.i64.wrap (-n) = q) (h : ¬ (Um.newtAll [q, 1000] lo hi).2.2 = 0) (hc : Um.chk lo hi = 0) (n1 : ¬ n < lo) (n2 : hi < n) :
    Calls Try.prog 6 #[.int .i64 n, .agg #[.int .i64 lo, .int .i64 hi]] w fun e w' => e = .returned (.bool true) ∧ Below w.heap.size w w' := by
  have v0 := errV_none
  have q1 := errG
  have q2 := errGn
  have q3 := errE
  have q4 := errN
  have HS := fun v w hl => hid (step_any [q, 1000] v lo hi w hl)
  have HC := fun w => hid (check_any lo hi w)
  have k : ((Um.newtAll [q, 1000] lo hi).2.2 != 0) = true := by simpa using h
  clear h
  generalize Um.newtAll [q, 1000] lo hi = S at *
  have kc : (Um.chk lo hi != 0) = false := by simpa using hc
  clear hc
  generalize Um.chk lo hi = K at *
  have tn1 : decide (n < lo) = false := by simpa using n1
  have tn2 : decide (hi < n) = true := by simpa using n2
  clear n1 n2
  have hF := (Fr.start w).push lo hi rfl
  have x0l := (hF.at 0 rfl).lo
  have x0h := (hF.at 0 rfl).hi
  go_enter Try.func6, Try.ntmps6
  go_wp2_with (first | (go_at_call 17; refine (HS _ _ (Li.lit (p := [q, 1000]) (by simp) two_cells)).out.mono ?_; rintro e wn ⟨rfl, hb⟩; replace hF := (hF.alloc _).step hb; clear hb; clear x0l x0h; clear HS; replace hF := hF.push S.1 S.2.1 rfl; have x1l := (hF.at 1 rfl).lo; have x1h := (hF.at 1 rfl).hi) | (go_at_call 11; refine (HC _).out.mono ?_; rintro e wn ⟨rfl, rfl⟩; replace hF := hF.alloc (.cells #[.int .i64 lo, .int .i64 hi] 24); clear x1l x1h; have x1l := (hF.at 1 rfl).lo; have x1h := (hF.at 1 rfl).hi))
  go_returns
  exact ⟨rfl, hF.below⟩

set_option maxRecDepth 100000 in
set_option maxHeartbeats 8000000 in
theorem walk_out2 (n lo hi q : Int) (w : World) (hq : IntKind.i64.wrap (-n) = q) (h : ¬ (Um.newtAll [q, 1000] lo hi).2.2 = 0) (hc : Um.chk lo hi = 0) (n1 : ¬ n < lo) (n2 : ¬ hi < n) (n3 : n < -400000000) :
    Calls Try.prog 6 #[.int .i64 n, .agg #[.int .i64 lo, .int .i64 hi]] w fun e w' => e = .returned (.bool true) ∧ Below w.heap.size w w' := by
  have v0 := errV_none
  have q1 := errG
  have q2 := errGn
  have q3 := errE
  have q4 := errN
  have HS := fun v w hl => hid (step_any [q, 1000] v lo hi w hl)
  have HC := fun w => hid (check_any lo hi w)
  have k : ((Um.newtAll [q, 1000] lo hi).2.2 != 0) = true := by simpa using h
  clear h
  generalize Um.newtAll [q, 1000] lo hi = S at *
  have kc : (Um.chk lo hi != 0) = false := by simpa using hc
  clear hc
  generalize Um.chk lo hi = K at *
  have tn1 : decide (n < lo) = false := by simpa using n1
  have tn2 : decide (hi < n) = false := by simpa using n2
  have tn3 : decide (n < -400000000) = true := by simpa using n3
  clear n1 n2 n3
  have hF := (Fr.start w).push lo hi rfl
  have x0l := (hF.at 0 rfl).lo
  have x0h := (hF.at 0 rfl).hi
  go_enter Try.func6, Try.ntmps6
  go_wp2_with (first | (go_at_call 17; refine (HS _ _ (Li.lit (p := [q, 1000]) (by simp) two_cells)).out.mono ?_; rintro e wn ⟨rfl, hb⟩; replace hF := (hF.alloc _).step hb; clear hb; clear x0l x0h; clear HS; replace hF := hF.push S.1 S.2.1 rfl; have x1l := (hF.at 1 rfl).lo; have x1h := (hF.at 1 rfl).hi) | (go_at_call 11; refine (HC _).out.mono ?_; rintro e wn ⟨rfl, rfl⟩; replace hF := hF.alloc (.cells #[.int .i64 lo, .int .i64 hi] 24); clear x1l x1h; have x1l := (hF.at 1 rfl).lo; have x1h := (hF.at 1 rfl).hi))
  go_returns
  exact ⟨rfl, hF.below⟩

set_option maxRecDepth 100000 in
set_option maxHeartbeats 8000000 in
theorem walk_out3 (n lo hi q : Int) (w : World) (hq : IntKind.i64.wrap (-n) = q) (h : ¬ (Um.newtAll [q, 1000] lo hi).2.2 = 0) (hc : Um.chk lo hi = 0) (n1 : ¬ n < lo) (n2 : ¬ hi < n) (n3 : ¬ n < -400000000) (n4 : 400000000 < n) :
    Calls Try.prog 6 #[.int .i64 n, .agg #[.int .i64 lo, .int .i64 hi]] w fun e w' => e = .returned (.bool true) ∧ Below w.heap.size w w' := by
  have v0 := errV_none
  have q1 := errG
  have q2 := errGn
  have q3 := errE
  have q4 := errN
  have HS := fun v w hl => hid (step_any [q, 1000] v lo hi w hl)
  have HC := fun w => hid (check_any lo hi w)
  have k : ((Um.newtAll [q, 1000] lo hi).2.2 != 0) = true := by simpa using h
  clear h
  generalize Um.newtAll [q, 1000] lo hi = S at *
  have kc : (Um.chk lo hi != 0) = false := by simpa using hc
  clear hc
  generalize Um.chk lo hi = K at *
  have tn1 : decide (n < lo) = false := by simpa using n1
  have tn2 : decide (hi < n) = false := by simpa using n2
  have tn3 : decide (n < -400000000) = false := by simpa using n3
  have tn4 : decide (400000000 < n) = true := by simpa using n4
  clear n1 n2 n3 n4
  have hF := (Fr.start w).push lo hi rfl
  have x0l := (hF.at 0 rfl).lo
  have x0h := (hF.at 0 rfl).hi
  go_enter Try.func6, Try.ntmps6
  go_wp2_with (first | (go_at_call 17; refine (HS _ _ (Li.lit (p := [q, 1000]) (by simp) two_cells)).out.mono ?_; rintro e wn ⟨rfl, hb⟩; replace hF := (hF.alloc _).step hb; clear hb; clear x0l x0h; clear HS; replace hF := hF.push S.1 S.2.1 rfl; have x1l := (hF.at 1 rfl).lo; have x1h := (hF.at 1 rfl).hi) | (go_at_call 11; refine (HC _).out.mono ?_; rintro e wn ⟨rfl, rfl⟩; replace hF := hF.alloc (.cells #[.int .i64 lo, .int .i64 hi] 24); clear x1l x1h; have x1l := (hF.at 1 rfl).lo; have x1h := (hF.at 1 rfl).hi))
  go_returns
  exact ⟨rfl, hF.below⟩

set_option maxRecDepth 100000 in
set_option maxHeartbeats 8000000 in
theorem walk_out4 (n lo hi q : Int) (w : World) (hq : IntKind.i64.wrap (-n) = q) (h : ¬ (Um.newtAll [q, 1000] lo hi).2.2 = 0) (hc : Um.chk lo hi = 0) (n1 : ¬ n < lo) (n2 : ¬ hi < n) (n3 : ¬ n < -400000000) (n4 : ¬ 400000000 < n) (n5 : lo < -400000000) :
    Calls Try.prog 6 #[.int .i64 n, .agg #[.int .i64 lo, .int .i64 hi]] w fun e w' => e = .returned (.bool true) ∧ Below w.heap.size w w' := by
  have v0 := errV_none
  have q1 := errG
  have q2 := errGn
  have q3 := errE
  have q4 := errN
  have HS := fun v w hl => hid (step_any [q, 1000] v lo hi w hl)
  have HC := fun w => hid (check_any lo hi w)
  have k : ((Um.newtAll [q, 1000] lo hi).2.2 != 0) = true := by simpa using h
  clear h
  generalize Um.newtAll [q, 1000] lo hi = S at *
  have kc : (Um.chk lo hi != 0) = false := by simpa using hc
  clear hc
  generalize Um.chk lo hi = K at *
  have tn1 : decide (n < lo) = false := by simpa using n1
  have tn2 : decide (hi < n) = false := by simpa using n2
  have tn3 : decide (n < -400000000) = false := by simpa using n3
  have tn4 : decide (400000000 < n) = false := by simpa using n4
  have tn5 : decide (lo < -400000000) = true := by simpa using n5
  clear n1 n2 n3 n4 n5
  have hF := (Fr.start w).push lo hi rfl
  have x0l := (hF.at 0 rfl).lo
  have x0h := (hF.at 0 rfl).hi
  go_enter Try.func6, Try.ntmps6
  go_wp2_with (first | (go_at_call 17; refine (HS _ _ (Li.lit (p := [q, 1000]) (by simp) two_cells)).out.mono ?_; rintro e wn ⟨rfl, hb⟩; replace hF := (hF.alloc _).step hb; clear hb; clear x0l x0h; clear HS; replace hF := hF.push S.1 S.2.1 rfl; have x1l := (hF.at 1 rfl).lo; have x1h := (hF.at 1 rfl).hi) | (go_at_call 11; refine (HC _).out.mono ?_; rintro e wn ⟨rfl, rfl⟩; replace hF := hF.alloc (.cells #[.int .i64 lo, .int .i64 hi] 24); clear x1l x1h; have x1l := (hF.at 1 rfl).lo; have x1h := (hF.at 1 rfl).hi))
  go_returns
  exact ⟨rfl, hF.below⟩

set_option maxRecDepth 100000 in
set_option maxHeartbeats 8000000 in
theorem walk_out5 (n lo hi q : Int) (w : World) (hq : IntKind.i64.wrap (-n) = q) (h : ¬ (Um.newtAll [q, 1000] lo hi).2.2 = 0) (hc : Um.chk lo hi = 0) (n1 : ¬ n < lo) (n2 : ¬ hi < n) (n3 : ¬ n < -400000000) (n4 : ¬ 400000000 < n) (n5 : ¬ lo < -400000000) (n6 : 400000000 < hi) :
    Calls Try.prog 6 #[.int .i64 n, .agg #[.int .i64 lo, .int .i64 hi]] w fun e w' => e = .returned (.bool true) ∧ Below w.heap.size w w' := by
  have v0 := errV_none
  have q1 := errG
  have q2 := errGn
  have q3 := errE
  have q4 := errN
  have HS := fun v w hl => hid (step_any [q, 1000] v lo hi w hl)
  have HC := fun w => hid (check_any lo hi w)
  have k : ((Um.newtAll [q, 1000] lo hi).2.2 != 0) = true := by simpa using h
  clear h
  generalize Um.newtAll [q, 1000] lo hi = S at *
  have kc : (Um.chk lo hi != 0) = false := by simpa using hc
  clear hc
  generalize Um.chk lo hi = K at *
  have tn1 : decide (n < lo) = false := by simpa using n1
  have tn2 : decide (hi < n) = false := by simpa using n2
  have tn3 : decide (n < -400000000) = false := by simpa using n3
  have tn4 : decide (400000000 < n) = false := by simpa using n4
  have tn5 : decide (lo < -400000000) = false := by simpa using n5
  have tn6 : decide (400000000 < hi) = true := by simpa using n6
  clear n1 n2 n3 n4 n5 n6
  have hF := (Fr.start w).push lo hi rfl
  have x0l := (hF.at 0 rfl).lo
  have x0h := (hF.at 0 rfl).hi
  go_enter Try.func6, Try.ntmps6
  go_wp2_with (first | (go_at_call 17; refine (HS _ _ (Li.lit (p := [q, 1000]) (by simp) two_cells)).out.mono ?_; rintro e wn ⟨rfl, hb⟩; replace hF := (hF.alloc _).step hb; clear hb; clear x0l x0h; clear HS; replace hF := hF.push S.1 S.2.1 rfl; have x1l := (hF.at 1 rfl).lo; have x1h := (hF.at 1 rfl).hi) | (go_at_call 11; refine (HC _).out.mono ?_; rintro e wn ⟨rfl, rfl⟩; replace hF := hF.alloc (.cells #[.int .i64 lo, .int .i64 hi] 24); clear x1l x1h; have x1l := (hF.at 1 rfl).lo; have x1h := (hF.at 1 rfl).hi))
  go_returns
  exact ⟨rfl, hF.below⟩

theorem far (n lo hi : Int) (w : World) (h : ¬ (Um.newtAll [IntKind.i64.wrap (-n), 1000] lo hi).2.2 = 0) (hz : Um.chk lo hi = 0 → lo ≤ n → n ≤ hi → -400000000 ≤ n → n ≤ 400000000 → -400000000 ≤ lo → hi ≤ 400000000 → False) :
    Calls Try.prog 6 #[.int .i64 n, .agg #[.int .i64 lo, .int .i64 hi]] w fun e w' => e = .returned (.bool true) ∧ Below w.heap.size w w' := by
  by_cases hc : Um.chk lo hi = 0
  · skip
    by_cases n1 : n < lo
    · exact walk_out0 n lo hi _ w rfl h hc  n1
    by_cases n2 : hi < n
    · exact walk_out1 n lo hi _ w rfl h hc n1 n2
    by_cases n3 : n < -400000000
    · exact walk_out2 n lo hi _ w rfl h hc n1 n2 n3
    by_cases n4 : 400000000 < n
    · exact walk_out3 n lo hi _ w rfl h hc n1 n2 n3 n4
    by_cases n5 : lo < -400000000
    · exact walk_out4 n lo hi _ w rfl h hc n1 n2 n3 n4 n5
    by_cases n6 : 400000000 < hi
    · exact walk_out5 n lo hi _ w rfl h hc n1 n2 n3 n4 n5 n6
    exact (hz hc (by omega) (by omega) (by omega) (by omega) (by omega) (by omega)).elim
  · exact walk_chk n lo hi _ w rfl h hc
theorem walk (n lo hi : Int) (w : World) (r : (Lit.int .i64 n).wf = true) :
    Calls Try.prog 6 #[.int .i64 n, .agg #[.int .i64 lo, .int .i64 hi]] w fun e w' => e = .returned (.bool true) ∧ Below w.heap.size w w' := by
  obtain ⟨r1, r2⟩ := wide r
  by_cases h : Um.may n = true
  · rcases line (lo := lo) (hi := hi) h with e | ⟨e, hz⟩
    · exact walk_ok n lo hi _ w (neg_may h) e
    · exact far n lo hi w (by rw [neg_may h]; exact e) hz
  · refine far n lo hi w (not_over (neg_not r1 r2 h)) fun _ _ _ a b _ _ => h ?_
    rw [Um.may_iff]; omega
end Go.Proofs.Ythoiiffdigkodaa.NLine
