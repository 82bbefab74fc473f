/-
  A system in which nothing changes: spanlaw4.none; what may be behind a box of one side, and behind a point.
-/
import Derived.Test.YtmkdjaafkigemaaMaths3
import Derived.Test.YtmkdjaafkigemaaSysLit
namespace Go.Proofs.Ytmkdjaafkigemaa
set_option linter.unusedSimpArgs false
open Go.RowKit

/-- A system in which nothing changes. -/
abbrev sNone : List (List Um.Tm) := [[(1000, 1, 0, 0)]]
set_option maxRecDepth 100000 in
set_option maxHeartbeats 4000000 in
theorem none_any (w : World) :
    Calls Try.prog 11 #[] w fun e w' => ∃ v0 v1, e = .returned (.agg #[v0, v1]) ∧ Lf w'.heap.size w' v0 sNone ∧ Ls w'.heap.size w' v1 [(0, 0)] ∧ Below w.heap.size w w' := by
  go_enter Try.func11, Try.ntmps11
  go_wp2
  go_returns
  exact ⟨_, _, rfl, (lit_lf (by simp) (by decide) (lit_lt (1000, 1, 0, 0) (by simp) (by decide))).alloc _, lit_ls 0 0 (by simp) (by decide), by go_grown⟩
theorem one_box (lo hi : Int) : Um.boxF [(lo, hi)] = Um.chk lo hi := by
  show (if Um.chk lo hi = 0 then 0 else Um.chk lo hi) = _
  split
  · rename_i h; rw [h]
  · rfl
theorem none_sys : Um.sysF sNone [(0, 0)] = 0 := by decide +kernel
theorem none_ready (lo hi : Int) : Um.readyF sNone [(0, 0)] [(lo, hi)] = Um.chk lo hi := by
  unfold Um.readyF
  rw [if_pos none_sys, one_box]
  split
  · rename_i h; rw [h]; rfl
  · rfl
theorem none_range {lo hi : Int} (h : Um.chk lo hi = 0) : Um.frR [(1000, 1, 0, 0)] [(lo, hi)] = (lo, hi, 0) := by
  obtain ⟨m1, m2, -⟩ := Um.chk_ok.1 h
  have p : Um.prodN (1000, 1, 0, 0) [(lo, hi)] 1 = (lo, hi, 0) := by
    have e : Um.powR (Um.sd [(lo, hi)] 0).1 (Um.sd [(lo, hi)] 0).2 (Um.tmT (1000, 1, 0, 0) 0).toNat = (lo, hi, 0) := Um.pow_once m1 m2
    rw [Um.prod_succ, if_pos (show (Um.prodN (1000, 1, 0, 0) [(lo, hi)] 0).2.2 = 0 from rfl), e, if_pos (show ((lo, hi, (0 : Int)) : Int × Int × Int).2.2 = 0 from rfl)]
    exact Um.stimes_thousand h
  have q : Um.sumN [(1000, 1, 0, 0)] [(lo, hi)] 1 = Um.addR 0 0 lo hi := by
    have e : Um.prodN (Um.tm [(1000, 1, 0, 0)] 0) [(lo, hi)] ([(lo, hi)] : List (Int × Int)).length = (lo, hi, 0) := p
    rw [Um.sum_succ, if_pos (show (Um.sumN [(1000, 1, 0, 0)] [(lo, hi)] 0).2.2 = 0 from rfl), e, if_pos (show ((lo, hi, (0 : Int)) : Int × Int × Int).2.2 = 0 from rfl)]
    rfl
  show Um.sumN [(1000, 1, 0, 0)] [(lo, hi)] 1 = _
  rw [q]
  unfold Um.addR Um.fit
  rw [Int.zero_add, Int.zero_add, if_pos ⟨m1, m2⟩]
theorem none_of {lo hi : Int} (h : Um.chk lo hi = 0) : Um.ofAll sNone [(0, 0)] [(lo, hi)] = ([(lo, hi)], 0) := by
  obtain ⟨m1, m2, -⟩ := Um.chk_ok.1 h
  rw [Um.ofAll_yes (by rw [none_ready]; exact h)]
  have e : Um.sideR sNone [(0, 0)] [(lo, hi)] 0 = (lo, hi, 0) := by
    have f : Um.frR (Um.nx sNone 0) [(lo, hi)] = (lo, hi, 0) := none_range h
    unfold Um.sideR
    rw [f, if_pos (show ((lo, hi, (0 : Int)) : Int × Int × Int).2.2 = 0 from rfl)]
    show Um.addR lo hi 0 0 = _
    unfold Um.addR Um.fit
    rw [Int.add_zero, Int.add_zero, if_pos ⟨m1, m2⟩]
  show Um.nextN sNone [(0, 0)] [(lo, hi)] 1 = _
  rw [Um.nextN_succ, if_pos (show (Um.nextN sNone [(0, 0)] [(lo, hi)] 0).2 = 0 from rfl), e, if_pos (show ((lo, hi, (0 : Int)) : Int × Int × Int).2.2 = 0 from rfl)]
  rfl
theorem none_of_not {lo hi : Int} (h : ¬ Um.chk lo hi = 0) : Um.ofAll sNone [(0, 0)] [(lo, hi)] = ([], Um.chk lo hi) := by
  rw [Um.ofAll_not (by rw [none_ready]; exact h), none_ready]
theorem none_nums (n : Int) : Um.numsF [n] = if Um.litP n then 0 else 1 := by
  unfold Um.numsF
  by_cases h : Um.litP n
  · rw [if_pos h, if_pos fun i hi => by obtain rfl : i = 0 := by simpa using hi
                                        exact h]
  · rw [if_neg h, if_neg fun g => h (g 0 (by simp))]
theorem none_movF (n : Int) : Um.movF sNone [(0, 0)] [n] [0] = Um.numsF [n] :=
  Um.mov_nums none_sys ⟨rfl, rfl⟩ fun i hi => by
    obtain rfl : i = 0 := by simpa using hi
    exact ⟨Int.le_refl _, Int.le_refl _⟩
theorem none_pt {n : Int} (h : Um.litP n) : Um.ptR [(1000, 1, 0, 0)] [n] = (n, 0) := by
  have e : Um.exS [(1000, 1, 0, 0)] [n] ([(1000, 1, 0, 0)] : List Um.Tm).length = n * 1000000000 := by
    show 0 + 1000 * n ^ 1 * 1000 ^ 2 = _
    rw [Int.pow_succ, Int.pow_zero]
    omega
  have f : Um.fl (n * 1000000000) 1000000000 = n := by
    have := Um.fl_spec_pos (n := n * 1000000000) (d := 1000000000) (by decide)
    omega
  have b : Um.bysP [(1000, 1, 0, 0)] := fun i hi => by
    obtain rfl : i = 0 := by simpa using hi
    exact ⟨by decide, by decide⟩
  have m : Um.may n = true := (Um.may_iff n).2 (by obtain ⟨h1, h2⟩ := h; omega)
  rw [Um.pt_yes b (by rw [e, f]; exact m), e, f]
theorem none_mov {n : Int} (h : Um.litP n) : Um.movAll sNone [(0, 0)] [n] [0] = ([n], 0) := by
  rw [Um.movAll_yes (by rw [none_movF, none_nums, if_pos h])]
  have e : Um.ptR (Um.nx sNone 0) [n] = (n, 0) := none_pt h
  have m : Um.may (n + Um.nm [0] 0) = true := (Um.may_iff _).2 (by obtain ⟨h1, h2⟩ := h; show -1000000000 ≤ n + 0 ∧ n + 0 ≤ 1000000000; omega)
  show Um.movN sNone [n] [0] 1 = _
  rw [Um.movN_succ, if_pos (show (Um.movN sNone [n] [0] 0).2 = 0 from rfl), e, if_pos (show ((n, (0 : Int)) : Int × Int).2 = 0 from rfl), if_pos (show Um.may (((n, (0 : Int)) : Int × Int).1 + Um.nm [0] 0) = true from m)]
  show ([n + 0], (0 : Int)) = _
  rw [Int.add_zero]
theorem none_mov_not {n : Int} (h : ¬ Um.litP n) : Um.movAll sNone [(0, 0)] [n] [0] = ([], 1) := by
  have e : Um.movF sNone [(0, 0)] [n] [0] = 1 := by rw [none_movF, none_nums, if_neg h]
  rw [Um.movAll_not (by rw [e]; decide), e]
end Go.Proofs.Ytmkdjaafkigemaa
