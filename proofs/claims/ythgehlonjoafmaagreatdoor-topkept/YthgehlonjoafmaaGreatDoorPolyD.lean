/-
  What package poly's Derive answers, at every argument.
-/
import Derived.Test.YthgehlonjoafmaaGreatDoorPoly
import Derived.Test.YthgehlonjoafmaaGreatDoorMems
import Derived.Test.YthgehlonjoafmaaGreatDoorMaths
namespace Go.Proofs.YthgehlonjoafmaaGreatDoor
set_option linter.unusedSimpArgs false
open Go.RowKit

/-- What Derive answers to anything. -/
def derAll (p : List Int) : List Int × Int := if Um.pchk p = 0 then Um.derR p else ([], Um.pchk p)
theorem make1 (w : World) : (Instr.makeSlice 52 (.int .i64 1) (.int .i64 1)).run Tryz.prog w = .ok (.slice (some ⟨w.heap.size, 0, none⟩) 1 1) (w.alloc (.cells #[.int .i64 0] 3)) := by kernel_rfl
theorem make2 (w : World) : (Instr.makeSlice 52 (.int .i64 2) (.int .i64 2)).run Tryz.prog w = .ok (.slice (some ⟨w.heap.size, 0, none⟩) 2 2) (w.alloc (.cells #[.int .i64 0, .int .i64 0] 3)) := by kernel_rfl
theorem make3 (w : World) : (Instr.makeSlice 52 (.int .i64 3) (.int .i64 3)).run Tryz.prog w = .ok (.slice (some ⟨w.heap.size, 0, none⟩) 3 3) (w.alloc (.cells #[.int .i64 0, .int .i64 0, .int .i64 0] 3)) := by kernel_rfl
theorem make4 (w : World) : (Instr.makeSlice 52 (.int .i64 4) (.int .i64 4)).run Tryz.prog w = .ok (.slice (some ⟨w.heap.size, 0, none⟩) 4 4) (w.alloc (.cells #[.int .i64 0, .int .i64 0, .int .i64 0, .int .i64 0] 3)) := by kernel_rfl

set_option maxRecDepth 100000 in
set_option maxHeartbeats 4000000 in
theorem derive2 (x0 x1 : Int) (v : Value) (w : World) (hl : Li w.heap.size w v [x0, x1]) (h : Um.pchk [x0, x1] = 0) :
    Calls Tryz.prog 79 #[v] w fun e w' => ∃ v', e = .returned (.tuple #[v', errV (Um.derR [x0, x1]).2]) ∧ Li w'.heap.size w' v' (Um.derR [x0, x1]).1 ∧ Below w.heap.size w w' := by
  have q1 := errG
  have q2 := errGn
  have q3 := errE
  have q4 := errN
  have qm := make1
  have HP := fun w1 hl => hid (pcheck_any w.heap.size [x0, x1] v w1 hl)
  rw [h] at HP
  obtain ⟨-, -, hm⟩ := Um.pchk_ok.1 h
  obtain ⟨b, off, cap, rfl, hlt, hcs⟩ := hl.out (by simp)
  obtain ⟨a1, b1⟩ := (Um.may_iff x1).1 (hm x1 (by simp))
  have c1 : w.cell? ⟨b, off + 1, none⟩ = some (.int .i64 x1) := hcs 1 (by simp)
  have hd : Um.ders [x0, x1] = [x1 * 1] := by unfold Um.ders; simp [List.range_succ]
  have HR : Hid (Um.derR [x0, x1] = if ([x1 * 1] : List Int).all Um.may = true then ([x1 * 1], 0) else ([], 4)) := by unfold Um.derR; rw [hd]; rfl
  have HA := fun (B : Nat) (u : Value) (w : World) (hl : Li B w u [x1 * 1]) => hid (anyBeyond_any B [x1 * 1] u w hl (by simp) (by simp))
  clear hcs hd hm h
  have el : [x0, x1].length = 2 := rfl
  rw [el] at *
  clear el
  generalize Um.derR [x0, x1] = R at *
  generalize hw' : w.alloc (.cells #[.int .i64 x1] 3) = w'
  have hN : Li w'.heap.size w' (.slice (some ⟨w.heap.size, 0, none⟩) 1 1) [x1 * 1] := by
    rw [← hw']
    refine Li.new (p := [x1 * 1]) (Blk.new w _ _) ?_
    intro j hj
    rcases (by simp at hj; omega : j = 0) with rfl <;> simp
  have hz : w.heap.size < w'.heap.size := by rw [← hw']; simp
  have hB : Below w.heap.size w w' := by rw [← hw']; go_grown
  cases hall : ([x1 * 1] : List Int).all Um.may
  all_goals
    rw [hall] at HA HR
    clear hall
    go_enter Tryz.func79, Tryz.ntmps79
    go_wp2_with (go_at_call 59; refine (HP _ hl).out.mono ?_; rintro e w1 ⟨rfl, rfl⟩)
    repeat (first | (refine wp_loop_rounds 2 ?_) | (rw [rounds_succ]; go_wp2_with (go_at_call 76; refine (HA _ _ _ hN).out.mono ?_; rintro e w1 ⟨rfl, rfl⟩)))
    go_returns
    rw [HR.out]
  · exact ⟨_, rfl, Li.nil _ _, hB⟩
  · exact ⟨_, rfl, hN, hB⟩

set_option maxRecDepth 100000 in
set_option maxHeartbeats 4000000 in
theorem derive3 (x0 x1 x2 : Int) (v : Value) (w : World) (hl : Li w.heap.size w v [x0, x1, x2]) (h : Um.pchk [x0, x1, x2] = 0) :
    Calls Tryz.prog 79 #[v] w fun e w' => ∃ v', e = .returned (.tuple #[v', errV (Um.derR [x0, x1, x2]).2]) ∧ Li w'.heap.size w' v' (Um.derR [x0, x1, x2]).1 ∧ Below w.heap.size w w' := by
  have q1 := errG
  have q2 := errGn
  have q3 := errE
  have q4 := errN
  have qm := make2
  have HP := fun w1 hl => hid (pcheck_any w.heap.size [x0, x1, x2] v w1 hl)
  rw [h] at HP
  obtain ⟨-, -, hm⟩ := Um.pchk_ok.1 h
  obtain ⟨b, off, cap, rfl, hlt, hcs⟩ := hl.out (by simp)
  obtain ⟨a1, b1⟩ := (Um.may_iff x1).1 (hm x1 (by simp))
  obtain ⟨a2, b2⟩ := (Um.may_iff x2).1 (hm x2 (by simp))
  have c1 : w.cell? ⟨b, off + 1, none⟩ = some (.int .i64 x1) := hcs 1 (by simp)
  have c2 : w.cell? ⟨b, off + 2, none⟩ = some (.int .i64 x2) := hcs 2 (by simp)
  have hd : Um.ders [x0, x1, x2] = [x1 * 1, x2 * 2] := by unfold Um.ders; simp [List.range_succ]
  have HR : Hid (Um.derR [x0, x1, x2] = if ([x1 * 1, x2 * 2] : List Int).all Um.may = true then ([x1 * 1, x2 * 2], 0) else ([], 4)) := by unfold Um.derR; rw [hd]; rfl
  have HA := fun (B : Nat) (u : Value) (w : World) (hl : Li B w u [x1 * 1, x2 * 2]) => hid (anyBeyond_any B [x1 * 1, x2 * 2] u w hl (by simp) (by simp))
  clear hcs hd hm h
  have el : [x0, x1, x2].length = 3 := rfl
  rw [el] at *
  clear el
  generalize Um.derR [x0, x1, x2] = R at *
  generalize hw' : w.alloc (.cells #[.int .i64 x1, .int .i64 (x2 * 2)] 3) = w'
  have hN : Li w'.heap.size w' (.slice (some ⟨w.heap.size, 0, none⟩) 2 2) [x1 * 1, x2 * 2] := by
    rw [← hw']
    refine Li.new (p := [x1 * 1, x2 * 2]) (Blk.new w _ _) ?_
    intro j hj
    rcases (by simp at hj; omega : j = 0 ∨ j = 1) with rfl | rfl <;> simp
  have hz : w.heap.size < w'.heap.size := by rw [← hw']; simp
  have hB : Below w.heap.size w w' := by rw [← hw']; go_grown
  cases hall : ([x1 * 1, x2 * 2] : List Int).all Um.may
  all_goals
    rw [hall] at HA HR
    clear hall
    go_enter Tryz.func79, Tryz.ntmps79
    go_wp2_with (go_at_call 59; refine (HP _ hl).out.mono ?_; rintro e w1 ⟨rfl, rfl⟩)
    repeat (first | (refine wp_loop_rounds 3 ?_) | (rw [rounds_succ]; go_wp2_with (go_at_call 76; refine (HA _ _ _ hN).out.mono ?_; rintro e w1 ⟨rfl, rfl⟩)))
    go_returns
    rw [HR.out]
  · exact ⟨_, rfl, Li.nil _ _, hB⟩
  · exact ⟨_, rfl, hN, hB⟩

set_option maxRecDepth 100000 in
set_option maxHeartbeats 4000000 in
theorem derive4 (x0 x1 x2 x3 : Int) (v : Value) (w : World) (hl : Li w.heap.size w v [x0, x1, x2, x3]) (h : Um.pchk [x0, x1, x2, x3] = 0) :
    Calls Tryz.prog 79 #[v] w fun e w' => ∃ v', e = .returned (.tuple #[v', errV (Um.derR [x0, x1, x2, x3]).2]) ∧ Li w'.heap.size w' v' (Um.derR [x0, x1, x2, x3]).1 ∧ Below w.heap.size w w' := by
  have q1 := errG
  have q2 := errGn
  have q3 := errE
  have q4 := errN
  have qm := make3
  have HP := fun w1 hl => hid (pcheck_any w.heap.size [x0, x1, x2, x3] v w1 hl)
  rw [h] at HP
  obtain ⟨-, -, hm⟩ := Um.pchk_ok.1 h
  obtain ⟨b, off, cap, rfl, hlt, hcs⟩ := hl.out (by simp)
  obtain ⟨a1, b1⟩ := (Um.may_iff x1).1 (hm x1 (by simp))
  obtain ⟨a2, b2⟩ := (Um.may_iff x2).1 (hm x2 (by simp))
  obtain ⟨a3, b3⟩ := (Um.may_iff x3).1 (hm x3 (by simp))
  have c1 : w.cell? ⟨b, off + 1, none⟩ = some (.int .i64 x1) := hcs 1 (by simp)
  have c2 : w.cell? ⟨b, off + 2, none⟩ = some (.int .i64 x2) := hcs 2 (by simp)
  have c3 : w.cell? ⟨b, off + 3, none⟩ = some (.int .i64 x3) := hcs 3 (by simp)
  have hd : Um.ders [x0, x1, x2, x3] = [x1 * 1, x2 * 2, x3 * 3] := by unfold Um.ders; simp [List.range_succ]
  have HR : Hid (Um.derR [x0, x1, x2, x3] = if ([x1 * 1, x2 * 2, x3 * 3] : List Int).all Um.may = true then ([x1 * 1, x2 * 2, x3 * 3], 0) else ([], 4)) := by unfold Um.derR; rw [hd]; rfl
  have HA := fun (B : Nat) (u : Value) (w : World) (hl : Li B w u [x1 * 1, x2 * 2, x3 * 3]) => hid (anyBeyond_any B [x1 * 1, x2 * 2, x3 * 3] u w hl (by simp) (by simp))
  clear hcs hd hm h
  have el : [x0, x1, x2, x3].length = 4 := rfl
  rw [el] at *
  clear el
  generalize Um.derR [x0, x1, x2, x3] = R at *
  generalize hw' : w.alloc (.cells #[.int .i64 x1, .int .i64 (x2 * 2), .int .i64 (x3 * 3)] 3) = w'
  have hN : Li w'.heap.size w' (.slice (some ⟨w.heap.size, 0, none⟩) 3 3) [x1 * 1, x2 * 2, x3 * 3] := by
    rw [← hw']
    refine Li.new (p := [x1 * 1, x2 * 2, x3 * 3]) (Blk.new w _ _) ?_
    intro j hj
    rcases (by simp at hj; omega : j = 0 ∨ j = 1 ∨ j = 2) with rfl | rfl | rfl <;> simp
  have hz : w.heap.size < w'.heap.size := by rw [← hw']; simp
  have hB : Below w.heap.size w w' := by rw [← hw']; go_grown
  cases hall : ([x1 * 1, x2 * 2, x3 * 3] : List Int).all Um.may
  all_goals
    rw [hall] at HA HR
    clear hall
    go_enter Tryz.func79, Tryz.ntmps79
    go_wp2_with (go_at_call 59; refine (HP _ hl).out.mono ?_; rintro e w1 ⟨rfl, rfl⟩)
    repeat (first | (refine wp_loop_rounds 4 ?_) | (rw [rounds_succ]; go_wp2_with (go_at_call 76; refine (HA _ _ _ hN).out.mono ?_; rintro e w1 ⟨rfl, rfl⟩)))
    go_returns
    rw [HR.out]
  · exact ⟨_, rfl, Li.nil _ _, hB⟩
  · exact ⟨_, rfl, hN, hB⟩

set_option maxRecDepth 100000 in
set_option maxHeartbeats 4000000 in
theorem derive5 (x0 x1 x2 x3 x4 : Int) (v : Value) (w : World) (hl : Li w.heap.size w v [x0, x1, x2, x3, x4]) (h : Um.pchk [x0, x1, x2, x3, x4] = 0) :
    Calls Tryz.prog 79 #[v] w fun e w' => ∃ v', e = .returned (.tuple #[v', errV (Um.derR [x0, x1, x2, x3, x4]).2]) ∧ Li w'.heap.size w' v' (Um.derR [x0, x1, x2, x3, x4]).1 ∧ Below w.heap.size w w' := by
  have q1 := errG
  have q2 := errGn
  have q3 := errE
  have q4 := errN
  have qm := make4
  have HP := fun w1 hl => hid (pcheck_any w.heap.size [x0, x1, x2, x3, x4] v w1 hl)
  rw [h] at HP
  obtain ⟨-, -, hm⟩ := Um.pchk_ok.1 h
  obtain ⟨b, off, cap, rfl, hlt, hcs⟩ := hl.out (by simp)
  obtain ⟨a1, b1⟩ := (Um.may_iff x1).1 (hm x1 (by simp))
  obtain ⟨a2, b2⟩ := (Um.may_iff x2).1 (hm x2 (by simp))
  obtain ⟨a3, b3⟩ := (Um.may_iff x3).1 (hm x3 (by simp))
  obtain ⟨a4, b4⟩ := (Um.may_iff x4).1 (hm x4 (by simp))
  have c1 : w.cell? ⟨b, off + 1, none⟩ = some (.int .i64 x1) := hcs 1 (by simp)
  have c2 : w.cell? ⟨b, off + 2, none⟩ = some (.int .i64 x2) := hcs 2 (by simp)
  have c3 : w.cell? ⟨b, off + 3, none⟩ = some (.int .i64 x3) := hcs 3 (by simp)
  have c4 : w.cell? ⟨b, off + 4, none⟩ = some (.int .i64 x4) := hcs 4 (by simp)
  have hd : Um.ders [x0, x1, x2, x3, x4] = [x1 * 1, x2 * 2, x3 * 3, x4 * 4] := by unfold Um.ders; simp [List.range_succ]
  have HR : Hid (Um.derR [x0, x1, x2, x3, x4] = if ([x1 * 1, x2 * 2, x3 * 3, x4 * 4] : List Int).all Um.may = true then ([x1 * 1, x2 * 2, x3 * 3, x4 * 4], 0) else ([], 4)) := by unfold Um.derR; rw [hd]; rfl
  have HA := fun (B : Nat) (u : Value) (w : World) (hl : Li B w u [x1 * 1, x2 * 2, x3 * 3, x4 * 4]) => hid (anyBeyond_any B [x1 * 1, x2 * 2, x3 * 3, x4 * 4] u w hl (by simp) (by simp))
  clear hcs hd hm h
  have el : [x0, x1, x2, x3, x4].length = 5 := rfl
  rw [el] at *
  clear el
  generalize Um.derR [x0, x1, x2, x3, x4] = R at *
  generalize hw' : w.alloc (.cells #[.int .i64 x1, .int .i64 (x2 * 2), .int .i64 (x3 * 3), .int .i64 (x4 * 4)] 3) = w'
  have hN : Li w'.heap.size w' (.slice (some ⟨w.heap.size, 0, none⟩) 4 4) [x1 * 1, x2 * 2, x3 * 3, x4 * 4] := by
    rw [← hw']
    refine Li.new (p := [x1 * 1, x2 * 2, x3 * 3, x4 * 4]) (Blk.new w _ _) ?_
    intro j hj
    rcases (by simp at hj; omega : j = 0 ∨ j = 1 ∨ j = 2 ∨ j = 3) with rfl | rfl | rfl | rfl <;> simp
  have hz : w.heap.size < w'.heap.size := by rw [← hw']; simp
  have hB : Below w.heap.size w w' := by rw [← hw']; go_grown
  cases hall : ([x1 * 1, x2 * 2, x3 * 3, x4 * 4] : List Int).all Um.may
  all_goals
    rw [hall] at HA HR
    clear hall
    go_enter Tryz.func79, Tryz.ntmps79
    go_wp2_with (go_at_call 59; refine (HP _ hl).out.mono ?_; rintro e w1 ⟨rfl, rfl⟩)
    repeat (first | (refine wp_loop_rounds 5 ?_) | (rw [rounds_succ]; go_wp2_with (go_at_call 76; refine (HA _ _ _ hN).out.mono ?_; rintro e w1 ⟨rfl, rfl⟩)))
    go_returns
    rw [HR.out]
  · exact ⟨_, rfl, Li.nil _ _, hB⟩
  · exact ⟨_, rfl, hN, hB⟩

set_option maxHeartbeats 1000000 in
theorem derive1 (x0 : Int) (v : Value) (w : World) (hl : Li w.heap.size w v [x0]) (h : Um.pchk [x0] = 0) :
    Calls Tryz.prog 79 #[v] w fun e w' => ∃ v', e = .returned (.tuple #[v', errV (Um.derR [x0]).2]) ∧ Li w'.heap.size w' v' (Um.derR [x0]).1 ∧ Below w.heap.size w w' := by
  have q1 := errG
  have q2 := errGn
  have q3 := errE
  have q4 := errN
  have HP := fun w1 hl => hid (pcheck_any w.heap.size [x0] v w1 hl)
  rw [h] at HP
  have HR : Hid (Um.derR [x0] = ([0], 0)) := by unfold Um.derR; rfl
  obtain ⟨b, off, cap, rfl, hlt, hcs⟩ := hl.out (by simp)
  clear hcs h
  have el : [x0].length = 1 := rfl
  rw [el] at *
  clear el
  generalize Um.derR [x0] = R at *
  go_enter Tryz.func79, Tryz.ntmps79
  go_wp2_with (go_at_call 59; refine (HP _ hl).out.mono ?_; rintro e w1 ⟨rfl, rfl⟩)
  go_returns
  rw [HR.out]
  refine ⟨_, rfl, ?_, by go_grown⟩
  refine Li.new (p := [0]) (Blk.new w1 _ _) ?_
  intro j hj
  obtain rfl : j = 0 := by simpa using hj
  simp

set_option maxHeartbeats 1000000 in
theorem derive_wrong (p : List Int) (v : Value) (w : World) (hl : Li w.heap.size w v p) (h : ¬ Um.pchk p = 0) :
    Calls Tryz.prog 79 #[v] w fun e w' => e = .returned (.tuple #[.slice none 0 0, errV (Um.pchk p)]) ∧ w' = w := by
  have q1 := errG
  have q2 := errGn
  have q3 := errE
  have q4 := errN
  have HP := fun w1 hl => hid (pcheck_any w.heap.size p v w1 hl)
  have k : (Um.pchk p != 0) = true := by simpa using h
  clear h
  obtain ⟨a, cap, rfl, -⟩ := (id hl)
  generalize Um.pchk p = T at *
  go_enter Tryz.func79, Tryz.ntmps79
  go_wp2_with (go_at_call 59; refine (HP _ hl).out.mono ?_; rintro e w1 ⟨rfl, rfl⟩)
  go_returns
  exact ⟨rfl, rfl⟩

/-- At every argument. -/
theorem derive_any (p : List Int) (v : Value) (w : World) (hl : Li w.heap.size w v p) :
    Calls Tryz.prog 79 #[v] w fun e w' => ∃ v', e = .returned (.tuple #[v', errV (derAll p).2]) ∧ Li w'.heap.size w' v' (derAll p).1 ∧ Below w.heap.size w w' := by
  unfold derAll
  by_cases h : Um.pchk p = 0
  · rw [if_pos h]
    have hp := Um.pchk_ok.1 h
    match p, hp.2.1, hp.1 with
    | [], _, h0 => exact absurd rfl h0
    | [x0], _, _ => exact derive1 x0 v w hl h
    | [x0, x1], _, _ => exact derive2 x0 x1 v w hl h
    | [x0, x1, x2], _, _ => exact derive3 x0 x1 x2 v w hl h
    | [x0, x1, x2, x3], _, _ => exact derive4 x0 x1 x2 x3 v w hl h
    | [x0, x1, x2, x3, x4], _, _ => exact derive5 x0 x1 x2 x3 x4 v w hl h
    | _ :: _ :: _ :: _ :: _ :: _ :: _, h5, _ => simp at h5
  · rw [if_neg h]
    refine (derive_wrong p v w hl h).mono ?_
    rintro e w' ⟨rfl, rfl⟩
    exact ⟨_, rfl, Li.nil _ _, Below.refl _ _⟩
end Go.Proofs.YthgehlonjoafmaaGreatDoor
