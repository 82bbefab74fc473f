/-
  The walk over 'spanlaw4.StepNone': for all a, n it returns true.
-/
import Derived.Test.YtjkckcifnohkdaaStep
import Derived.Test.YtjkckcifnohkdaaSysLit
import Derived.Test.YtjkckcifnohkdaaRefSplit
import Derived.Deep.CutRange
namespace Go.Proofs.Ytjkckcifnohkdaa
set_option linter.unusedSimpArgs false
open Go.RowKit

/-- A system in which nothing changes. -/
abbrev sNone : List (List Um.Tm) := [[(1000, 1, 0, 0)]]
set_option maxRecDepth 100000 in
set_option maxHeartbeats 4000000 in
theorem none_any (w : World) :
    Calls Try.prog 8 #[] w fun e w' => ∃ v0 v1, e = .returned (.agg #[v0, v1]) ∧ Lf w'.heap.size w' v0 sNone ∧ Ls w'.heap.size w' v1 [(0, 0)] ∧ Below w.heap.size w w' := by
  go_enter Try.func8, Try.ntmps8
  go_wp2
  go_returns
  exact ⟨_, _, rfl, (lit_lf (by simp) (by decide) (lit_lt (1000, 1, 0, 0) (by simp) (by decide))).alloc _, lit_ls 0 0 (by simp) (by decide), by go_grown⟩
end Go.Proofs.Ytjkckcifnohkdaa
namespace Go.Proofs.Ytjkckcifnohkdaa.StNone
set_option linter.unusedSimpArgs false
open Go.RowKit

theorem one_box (lo hi : Int) : Um.boxF [(lo, hi)] = Um.chk lo hi := by
  show (if Um.chk lo hi = 0 then 0 else Um.chk lo hi) = _
  split
  · rename_i h; rw [h]
  · rfl
theorem none_sys : Um.sysF sNone [(0, 0)] = 0 := by decide +kernel
theorem none_ready (lo hi : Int) : Um.readyF sNone [(0, 0)] [(lo, hi)] = Um.chk lo hi := by
  unfold Um.readyF
  rw [if_pos none_sys, one_box]
  split
  · rename_i h; rw [h]; rfl
  · rfl
theorem none_range {lo hi : Int} (h : Um.chk lo hi = 0) : Um.frR [(1000, 1, 0, 0)] [(lo, hi)] = (lo, hi, 0) := by
  obtain ⟨m1, m2, -⟩ := Um.chk_ok.1 h
  have p : Um.prodN (1000, 1, 0, 0) [(lo, hi)] 1 = (lo, hi, 0) := by
    have e : Um.powR (Um.sd [(lo, hi)] 0).1 (Um.sd [(lo, hi)] 0).2 (Um.tmT (1000, 1, 0, 0) 0).toNat = (lo, hi, 0) := Um.pow_once m1 m2
    rw [Um.prod_succ, if_pos (show (Um.prodN (1000, 1, 0, 0) [(lo, hi)] 0).2.2 = 0 from rfl), e, if_pos (show ((lo, hi, (0 : Int)) : Int × Int × Int).2.2 = 0 from rfl)]
    exact Um.stimes_thousand h
  have q : Um.sumN [(1000, 1, 0, 0)] [(lo, hi)] 1 = Um.addR 0 0 lo hi := by
    have e : Um.prodN (Um.tm [(1000, 1, 0, 0)] 0) [(lo, hi)] ([(lo, hi)] : List (Int × Int)).length = (lo, hi, 0) := p
    rw [Um.sum_succ, if_pos (show (Um.sumN [(1000, 1, 0, 0)] [(lo, hi)] 0).2.2 = 0 from rfl), e, if_pos (show ((lo, hi, (0 : Int)) : Int × Int × Int).2.2 = 0 from rfl)]
    rfl
  show Um.sumN [(1000, 1, 0, 0)] [(lo, hi)] 1 = _
  rw [q]
  unfold Um.addR Um.fit
  rw [Int.zero_add, Int.zero_add, if_pos ⟨m1, m2⟩]
theorem none_of {lo hi : Int} (h : Um.chk lo hi = 0) : Um.ofAll sNone [(0, 0)] [(lo, hi)] = ([(lo, hi)], 0) := by
  obtain ⟨m1, m2, -⟩ := Um.chk_ok.1 h
  rw [Um.ofAll_yes (by rw [none_ready]; exact h)]
  have e : Um.sideR sNone [(0, 0)] [(lo, hi)] 0 = (lo, hi, 0) := by
    have f : Um.frR (Um.nx sNone 0) [(lo, hi)] = (lo, hi, 0) := none_range h
    unfold Um.sideR
    rw [f, if_pos (show ((lo, hi, (0 : Int)) : Int × Int × Int).2.2 = 0 from rfl)]
    show Um.addR lo hi 0 0 = _
    unfold Um.addR Um.fit
    rw [Int.add_zero, Int.add_zero, if_pos ⟨m1, m2⟩]
  show Um.nextN sNone [(0, 0)] [(lo, hi)] 1 = _
  rw [Um.nextN_succ, if_pos (show (Um.nextN sNone [(0, 0)] [(lo, hi)] 0).2 = 0 from rfl), e, if_pos (show ((lo, hi, (0 : Int)) : Int × Int × Int).2.2 = 0 from rfl)]
  rfl
theorem none_of_not {lo hi : Int} (h : ¬ Um.chk lo hi = 0) : Um.ofAll sNone [(0, 0)] [(lo, hi)] = ([], Um.chk lo hi) := by
  rw [Um.ofAll_not (by rw [none_ready]; exact h), none_ready]
theorem none_nums (n : Int) : Um.numsF [n] = if Um.litP n then 0 else 1 := by
  unfold Um.numsF
  by_cases h : Um.litP n
  · rw [if_pos h, if_pos fun i hi => by obtain rfl : i = 0 := by simpa using hi
                                        exact h]
  · rw [if_neg h, if_neg fun g => h (g 0 (by simp))]
theorem none_movF (n : Int) : Um.movF sNone [(0, 0)] [n] [0] = Um.numsF [n] :=
  Um.mov_nums none_sys ⟨rfl, rfl⟩ fun i hi => by
    obtain rfl : i = 0 := by simpa using hi
    exact ⟨Int.le_refl _, Int.le_refl _⟩
theorem none_pt {n : Int} (h : Um.litP n) : Um.ptR [(1000, 1, 0, 0)] [n] = (n, 0) := by
  have e : Um.exS [(1000, 1, 0, 0)] [n] ([(1000, 1, 0, 0)] : List Um.Tm).length = n * 1000000000 := by
    show 0 + 1000 * n ^ 1 * 1000 ^ 2 = _
    rw [Int.pow_succ, Int.pow_zero]
    omega
  have f : Um.fl (n * 1000000000) 1000000000 = n := by
    have := Um.fl_spec_pos (n := n * 1000000000) (d := 1000000000) (by decide)
    omega
  have b : Um.bysP [(1000, 1, 0, 0)] := fun i hi => by
    obtain rfl : i = 0 := by simpa using hi
    exact ⟨by decide, by decide⟩
  have m : Um.may n = true := (Um.may_iff n).2 (by obtain ⟨h1, h2⟩ := h; omega)
  rw [Um.pt_yes b (by rw [e, f]; exact m), e, f]
theorem none_mov {n : Int} (h : Um.litP n) : Um.movAll sNone [(0, 0)] [n] [0] = ([n], 0) := by
  rw [Um.movAll_yes (by rw [none_movF, none_nums, if_pos h])]
  have e : Um.ptR (Um.nx sNone 0) [n] = (n, 0) := none_pt h
  have m : Um.may (n + Um.nm [0] 0) = true := (Um.may_iff _).2 (by obtain ⟨h1, h2⟩ := h; show -1000000000 ≤ n + 0 ∧ n + 0 ≤ 1000000000; omega)
  show Um.movN sNone [n] [0] 1 = _
  rw [Um.movN_succ, if_pos (show (Um.movN sNone [n] [0] 0).2 = 0 from rfl), e, if_pos (show ((n, (0 : Int)) : Int × Int).2 = 0 from rfl), if_pos (show Um.may (((n, (0 : Int)) : Int × Int).1 + Um.nm [0] 0) = true from m)]
  show ([n + 0], (0 : Int)) = _
  rw [Int.add_zero]
theorem none_mov_not {n : Int} (h : ¬ Um.litP n) : Um.movAll sNone [(0, 0)] [n] [0] = ([], 1) := by
  have e : Um.movF sNone [(0, 0)] [n] [0] = 1 := by rw [none_movF, none_nums, if_neg h]
  rw [Um.movAll_not (by rw [e]; decide), e]

set_option maxRecDepth 100000 in
set_option maxHeartbeats 16000000 in
theorem walk_wrong (lo hi n : Int) (w : World) (h : ¬ Um.chk lo hi = 0) :
    Calls Try.prog 4 #[.agg #[.int .i64 lo, .int .i64 hi], .int .i64 n] w fun e w' => e = .returned (.bool true) ∧ Below w.heap.size w w' := by
  have v0 := errV_none
  have q1 := errG
  have q2 := errGn
  have q3 := errE
  have q4 := errN
  have hF := (Fr.start w).push lo hi rfl
  have x0l := (hF.at 0 rfl).lo
  have x0h := (hF.at 0 rfl).hi
  have HOF := fun v0 v1 v w h1 h2 h3 => hid (sof_any sNone v0 [(0, 0)] v1 [(lo, hi)] v w h1 h2 h3)
  have HPT := fun v0 v1 v t w h1 h2 h3 h4 => hid (spoint_any sNone v0 [(0, 0)] v1 [n] v [0] t w h1 h2 h3 h4)
  have HCK := fun w => hid (check_any lo hi w)
  have HBX := fun u v w h1 h2 => hid (box_same [(lo, hi)] u v w h1 h2 (by simp))
  rw [none_of_not h] at HOF
  have k : (Um.chk lo hi != 0) = true := by simpa using h
  clear h HBX
  generalize Um.chk lo hi = K at *
  generalize Um.movAll sNone [(0, 0)] [n] [0] = M at *
  go_enter Try.func4, Try.ntmps4
  go_upto_region 2 with fail
  have hbx := lit_ls (w := w.alloc (.cells #[.int .i64 lo, .int .i64 hi] 32)) (T := 32) (b := w.heap.size + 1) (cap := 1) lo hi (by simp) (by decide)
  replace hF := hF.alloc (.cells #[.int .i64 lo, .int .i64 hi] 32)
  clear x0l x0h
  go_upto_region 3 with (first | (go_at_call 5; refine (HOF _ _ _ _ hf hp hbx).out.mono ?_; rintro e wn ⟨r1, rfl, hy, hb⟩; replace hbx := hbx.step hb; replace hF := hF.step hb; clear hb; obtain ⟨s1, d1, rfl, -⟩ := (id hy); clear HOF hf hp) | (go_at_call 8; refine (hid (none_any _)).out.mono ?_; rintro e wn ⟨v0, v1, rfl, hf, hp, hb⟩; replace hbx := hbx.step hb; replace hF := hF.step hb; clear hb))
  go_upto_region 4 with (first | (go_at_call 7; refine (HPT _ _ _ _ _ ((hf.alloc _).alloc _) ((hp.alloc _).alloc _) ((Li.one' n _ (by simp)).alloc _) (Li.one' 0 _ (by simp))).out.mono ?_; rintro e wn ⟨r2, rfl, hz, hb⟩; replace hy := ((hy.alloc _).alloc _).step hb; replace hbx := ((hbx.alloc _).alloc _).step hb; replace hF := ((hF.alloc _).alloc _).step hb; clear hb HPT hf hp; obtain ⟨s2, d2, rfl, -⟩ := (id hz); have x0l := (hF.at 0 rfl).lo; have x0h := (hF.at 0 rfl).hi) | (go_at_call 8; refine (hid (none_any _)).out.mono ?_; rintro e wn ⟨v2, v3, rfl, hf, hp, hb⟩; replace hy := hy.step hb; replace hbx := hbx.step hb; replace hF := hF.step hb; clear hb))
  go_wp2_with (go_at_call 9; refine (HCK _).out.mono ?_; rintro e wn ⟨rfl, rfl⟩; )
  go_returns
  exact ⟨rfl, (hF.alloc _).below⟩

set_option maxRecDepth 100000 in
set_option maxHeartbeats 16000000 in
theorem walk_in (lo hi n : Int) (w : World) (h : Um.chk lo hi = 0) (hn : Um.litP n) :
    Calls Try.prog 4 #[.agg #[.int .i64 lo, .int .i64 hi], .int .i64 n] w fun e w' => e = .returned (.bool true) ∧ Below w.heap.size w w' := by
  have v0 := errV_none
  have q1 := errG
  have q2 := errGn
  have q3 := errE
  have q4 := errN
  have hF := (Fr.start w).push lo hi rfl
  have x0l := (hF.at 0 rfl).lo
  have x0h := (hF.at 0 rfl).hi
  have HOF := fun v0 v1 v w h1 h2 h3 => hid (sof_any sNone v0 [(0, 0)] v1 [(lo, hi)] v w h1 h2 h3)
  have HPT := fun v0 v1 v t w h1 h2 h3 h4 => hid (spoint_any sNone v0 [(0, 0)] v1 [n] v [0] t w h1 h2 h3 h4)
  have HCK := fun w => hid (check_any lo hi w)
  have HBX := fun u v w h1 h2 => hid (box_same [(lo, hi)] u v w h1 h2 (by simp))
  rw [none_of h] at HOF
  rw [none_mov hn] at HPT
  clear h hn
  go_enter Try.func4, Try.ntmps4
  go_upto_region 2 with fail
  have hbx := lit_ls (w := w.alloc (.cells #[.int .i64 lo, .int .i64 hi] 32)) (T := 32) (b := w.heap.size + 1) (cap := 1) lo hi (by simp) (by decide)
  replace hF := hF.alloc (.cells #[.int .i64 lo, .int .i64 hi] 32)
  clear x0l x0h
  go_upto_region 3 with (first | (go_at_call 5; refine (HOF _ _ _ _ hf hp hbx).out.mono ?_; rintro e wn ⟨r1, rfl, hy, hb⟩; replace hbx := hbx.step hb; replace hF := hF.step hb; clear hb; obtain ⟨s1, d1, rfl, -⟩ := (id hy); clear HOF hf hp) | (go_at_call 8; refine (hid (none_any _)).out.mono ?_; rintro e wn ⟨v0, v1, rfl, hf, hp, hb⟩; replace hbx := hbx.step hb; replace hF := hF.step hb; clear hb))
  go_upto_region 4 with (first | (go_at_call 7; refine (HPT _ _ _ _ _ ((hf.alloc _).alloc _) ((hp.alloc _).alloc _) ((Li.one' n _ (by simp)).alloc _) (Li.one' 0 _ (by simp))).out.mono ?_; rintro e wn ⟨r2, rfl, hz, hb⟩; replace hy := ((hy.alloc _).alloc _).step hb; replace hbx := ((hbx.alloc _).alloc _).step hb; replace hF := ((hF.alloc _).alloc _).step hb; clear hb HPT hf hp; obtain ⟨b2, o2, d2, rfl, hlt2, hc2⟩ := hz.out (by simp); have zn : wn.cell? ⟨b2, o2, none⟩ = some (.int .i64 n) := hc2 0 (by simp); clear hc2) | (go_at_call 8; refine (hid (none_any _)).out.mono ?_; rintro e wn ⟨v2, v3, rfl, hf, hp, hb⟩; replace hy := hy.step hb; replace hbx := hbx.step hb; replace hF := hF.step hb; clear hb))
  go_wp2_with (go_at_call 10; refine (HBX _ _ _ hy hbx).out.mono ?_; rintro e wn ⟨rfl, hb⟩; have zn := (hb.cell (p := ⟨b2, o2, none⟩) hlt2).trans zn; replace hF := hF.step hb; clear hb; clear hy hbx HBX)
  go_returns
  exact ⟨rfl, hF.below⟩

set_option maxRecDepth 100000 in
set_option maxHeartbeats 16000000 in
theorem walk_low (lo hi n : Int) (w : World) (h : Um.chk lo hi = 0) (hn : n < -20000) :
    Calls Try.prog 4 #[.agg #[.int .i64 lo, .int .i64 hi], .int .i64 n] w fun e w' => e = .returned (.bool true) ∧ Below w.heap.size w w' := by
  have v0 := errV_none
  have q1 := errG
  have q2 := errGn
  have q3 := errE
  have q4 := errN
  have hF := (Fr.start w).push lo hi rfl
  have x0l := (hF.at 0 rfl).lo
  have x0h := (hF.at 0 rfl).hi
  have HOF := fun v0 v1 v w h1 h2 h3 => hid (sof_any sNone v0 [(0, 0)] v1 [(lo, hi)] v w h1 h2 h3)
  have HPT := fun v0 v1 v t w h1 h2 h3 h4 => hid (spoint_any sNone v0 [(0, 0)] v1 [n] v [0] t w h1 h2 h3 h4)
  have HCK := fun w => hid (check_any lo hi w)
  have HBX := fun u v w h1 h2 => hid (box_same [(lo, hi)] u v w h1 h2 (by simp))
  rw [none_of h] at HOF
  rw [none_mov_not (by unfold Um.litP; omega)] at HPT
  have t1 : decide (n < -20000) = true := by simpa using hn
  clear h hn
  go_enter Try.func4, Try.ntmps4
  go_upto_region 2 with fail
  have hbx := lit_ls (w := w.alloc (.cells #[.int .i64 lo, .int .i64 hi] 32)) (T := 32) (b := w.heap.size + 1) (cap := 1) lo hi (by simp) (by decide)
  replace hF := hF.alloc (.cells #[.int .i64 lo, .int .i64 hi] 32)
  clear x0l x0h
  go_upto_region 3 with (first | (go_at_call 5; refine (HOF _ _ _ _ hf hp hbx).out.mono ?_; rintro e wn ⟨r1, rfl, hy, hb⟩; replace hbx := hbx.step hb; replace hF := hF.step hb; clear hb; obtain ⟨s1, d1, rfl, -⟩ := (id hy); clear HOF hf hp) | (go_at_call 8; refine (hid (none_any _)).out.mono ?_; rintro e wn ⟨v0, v1, rfl, hf, hp, hb⟩; replace hbx := hbx.step hb; replace hF := hF.step hb; clear hb))
  go_upto_region 4 with (first | (go_at_call 7; refine (HPT _ _ _ _ _ ((hf.alloc _).alloc _) ((hp.alloc _).alloc _) ((Li.one' n _ (by simp)).alloc _) (Li.one' 0 _ (by simp))).out.mono ?_; rintro e wn ⟨r2, rfl, hz, hb⟩; replace hy := ((hy.alloc _).alloc _).step hb; replace hbx := ((hbx.alloc _).alloc _).step hb; replace hF := ((hF.alloc _).alloc _).step hb; clear hb HPT hf hp; obtain ⟨s2, d2, rfl, -⟩ := (id hz)) | (go_at_call 8; refine (hid (none_any _)).out.mono ?_; rintro e wn ⟨v2, v3, rfl, hf, hp, hb⟩; replace hy := hy.step hb; replace hbx := hbx.step hb; replace hF := hF.step hb; clear hb))
  go_wp2_with (go_at_call 10; refine (HBX _ _ _ hy hbx).out.mono ?_; rintro e wn ⟨rfl, hb⟩; replace hz := (hz.keep hb).wide hb.size; replace hF := hF.step hb; clear hb; clear hy hbx HBX)
  go_returns
  exact ⟨rfl, hF.below⟩

set_option maxRecDepth 100000 in
set_option maxHeartbeats 16000000 in
theorem walk_high (lo hi n : Int) (w : World) (h : Um.chk lo hi = 0) (hn1 : ¬ n < -20000) (hn : 20000 < n) :
    Calls Try.prog 4 #[.agg #[.int .i64 lo, .int .i64 hi], .int .i64 n] w fun e w' => e = .returned (.bool true) ∧ Below w.heap.size w w' := by
  have v0 := errV_none
  have q1 := errG
  have q2 := errGn
  have q3 := errE
  have q4 := errN
  have hF := (Fr.start w).push lo hi rfl
  have x0l := (hF.at 0 rfl).lo
  have x0h := (hF.at 0 rfl).hi
  have HOF := fun v0 v1 v w h1 h2 h3 => hid (sof_any sNone v0 [(0, 0)] v1 [(lo, hi)] v w h1 h2 h3)
  have HPT := fun v0 v1 v t w h1 h2 h3 h4 => hid (spoint_any sNone v0 [(0, 0)] v1 [n] v [0] t w h1 h2 h3 h4)
  have HCK := fun w => hid (check_any lo hi w)
  have HBX := fun u v w h1 h2 => hid (box_same [(lo, hi)] u v w h1 h2 (by simp))
  rw [none_of h] at HOF
  rw [none_mov_not (by unfold Um.litP; omega)] at HPT
  have t1 : decide (n < -20000) = false := decide_eq_false hn1
  have t2 : decide (20000 < n) = true := decide_eq_true hn
  clear h hn hn1
  go_enter Try.func4, Try.ntmps4
  go_upto_region 2 with fail
  have hbx := lit_ls (w := w.alloc (.cells #[.int .i64 lo, .int .i64 hi] 32)) (T := 32) (b := w.heap.size + 1) (cap := 1) lo hi (by simp) (by decide)
  replace hF := hF.alloc (.cells #[.int .i64 lo, .int .i64 hi] 32)
  clear x0l x0h
  go_upto_region 3 with (first | (go_at_call 5; refine (HOF _ _ _ _ hf hp hbx).out.mono ?_; rintro e wn ⟨r1, rfl, hy, hb⟩; replace hbx := hbx.step hb; replace hF := hF.step hb; clear hb; obtain ⟨s1, d1, rfl, -⟩ := (id hy); clear HOF hf hp) | (go_at_call 8; refine (hid (none_any _)).out.mono ?_; rintro e wn ⟨v0, v1, rfl, hf, hp, hb⟩; replace hbx := hbx.step hb; replace hF := hF.step hb; clear hb))
  go_upto_region 4 with (first | (go_at_call 7; refine (HPT _ _ _ _ _ ((hf.alloc _).alloc _) ((hp.alloc _).alloc _) ((Li.one' n _ (by simp)).alloc _) (Li.one' 0 _ (by simp))).out.mono ?_; rintro e wn ⟨r2, rfl, hz, hb⟩; replace hy := ((hy.alloc _).alloc _).step hb; replace hbx := ((hbx.alloc _).alloc _).step hb; replace hF := ((hF.alloc _).alloc _).step hb; clear hb HPT hf hp; obtain ⟨s2, d2, rfl, -⟩ := (id hz)) | (go_at_call 8; refine (hid (none_any _)).out.mono ?_; rintro e wn ⟨v2, v3, rfl, hf, hp, hb⟩; replace hy := hy.step hb; replace hbx := hbx.step hb; replace hF := hF.step hb; clear hb))
  go_wp2_with (go_at_call 10; refine (HBX _ _ _ hy hbx).out.mono ?_; rintro e wn ⟨rfl, hb⟩; replace hz := (hz.keep hb).wide hb.size; replace hF := hF.step hb; clear hb; clear hy hbx HBX)
  go_returns
  exact ⟨rfl, hF.below⟩

theorem walk (lo hi n : Int) (w : World) :
    Calls Try.prog 4 #[.agg #[.int .i64 lo, .int .i64 hi], .int .i64 n] w fun e w' => e = .returned (.bool true) ∧ Below w.heap.size w w' := by
  by_cases h : Um.chk lo hi = 0
  case neg => exact walk_wrong lo hi n w h
  by_cases h1 : n < -20000
  · exact walk_low lo hi n w h h1
  · by_cases h2 : 20000 < n
    · exact walk_high lo hi n w h h1 h2
    · exact walk_in lo hi n w h ⟨by omega, by omega⟩
end Go.Proofs.Ytjkckcifnohkdaa.StNone
