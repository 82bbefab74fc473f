/-
  What package log answers: New, Sync, Fail, Bytes, Safe, and Put where it does not stop at it.
-/
import Derived.Test.YthgehlonjoafmaaDoorLogM
import Derived.Test.YthgehlonjoafmaaDoorLg
import Derived.Test.YthgehlonjoafmaaDoorBoxC
import Derived.Lib.MinMax
namespace Go.Proofs.YthgehlonjoafmaaDoor
set_option linter.unusedSimpArgs false
open Go.RowKit

set_option maxRecDepth 100000 in
set_option maxHeartbeats 8000000 in
theorem logNew_yes (n : Nat) (K : Int) (w : World) (h1 : 1 ≤ n) (h3 : n ≤ 3) (hK : K = 0) :
    Calls Tryd.prog 6 #[.int .i64 n] w fun e w' => ∃ p, e = .returned (.tuple #[.pointer (some ⟨p, 0, none⟩), errV K]) ∧ w.heap.size ≤ p ∧ Lg w.heap.size w' p none (Um.newS n) ∧ Below w.heap.size w w' := by
  have ve := errV_none
  have q1 := errG
  have q2 := errGn
  have q3 := errE
  have q4 := errN
  have t1 : decide ((n : Int) < 1) = false := decide_eq_false (by omega)
  have t2 : decide ((3 : Int) < (n : Int)) = false := decide_eq_false (by omega)
  subst hK
  go_enter Tryd.func6, Tryd.ntmps6
  go_wp2
  go_returns
  refine ⟨w.heap.size, rfl, Nat.le_refl _, ⟨Um.new_ok h1 h3, Nat.le_refl _, ⟨.slice none 0 0, rfl, Blk.new _ _ _, World.ownsRow_nil _ _ _ _⟩, by simp⟩, by go_grown⟩

set_option maxRecDepth 100000 in
set_option maxHeartbeats 8000000 in
theorem logNew_no (n : Int) (w : World) (h : n < 1 ∨ 3 < n) :
    Calls Tryd.prog 6 #[.int .i64 n] w fun e w' => e = .returned (.tuple #[.pointer none, errV 1]) ∧ Below w.heap.size w w' := by
  have ve := errV_none
  have q1 := errG
  have q2 := errGn
  have q3 := errE
  have q4 := errN
  by_cases h1 : n < 1
  · have t1 : decide (n < 1) = true := decide_eq_true h1
    go_enter Tryd.func6, Tryd.ntmps6
    go_wp2
    go_returns
    exact ⟨rfl, by go_grown⟩
  · have t1 : decide (n < 1) = false := decide_eq_false h1
    have t2 : decide (3 < n) = true := decide_eq_true (by omega)
    go_enter Tryd.func6, Tryd.ntmps6
    go_wp2
    go_returns
    exact ⟨rfl, by go_grown⟩

set_option maxRecDepth 100000 in
set_option maxHeartbeats 8000000 in
theorem lgStep_zero (base p : Nat) (k : Option Nat) (s : Um.LogS) (w : World) (hL : Lg base w p k s) (h : s.left = 0) :
    Calls Tryd.prog 23 #[.pointer (some ⟨p, 0, none⟩)] w fun e w' => e = .returned (errV (Um.stepF s)) ∧ Lg base w' p k (Um.stepS s) ∧ Wrote w w' p k k := by
  have ve := errV_none
  have q1 := errG
  have q2 := errGn
  have q3 := errE
  have q4 := errN
  obtain ⟨kv, rfl, hb, ho⟩ := (id hL).cells
  have x3 : w.cell? ⟨p, 3, none⟩ = some (.int .i64 s.left) := hb.cell 3 rfl
  have x4 : w.cell? ⟨p, 4, none⟩ = some (.bool s.stop) := hb.cell 4 rfl
  have f3 := hb.free 3
  have f4 := hb.free 4
  have HF : Hid (Um.stepF s = 6) := hid (by unfold Um.stepF; rw [if_pos h])
  have HS : Hid (Um.stepS s = { s with stop := true }) := hid (by unfold Um.stepS; rw [if_pos h])
  have HOK := hid (Um.step_ok hL.ok)
  have HAP := hid hL.apart
  have HGE := hid hL.ge
  rw [h] at x3
  clear hL h
  go_enter Tryd.func23, Tryd.ntmps23
  go_wp2
  go_returns
  rw [HF.out]
  refine ⟨rfl, ⟨HOK.out, HGE.out, ⟨kv, rfl, ?_, ?_⟩, HAP.out⟩, Wrote.set _ _ _ _ _⟩
  · rw [HS.out]
    exact hb.set 4 _ rfl
  · rw [HS.out]
    exact owns_other ho HAP.out

set_option maxRecDepth 100000 in
set_option maxHeartbeats 8000000 in
theorem lgStep_more (base p : Nat) (k : Option Nat) (s : Um.LogS) (w : World) (hL : Lg base w p k s) (h : 0 < s.left) :
    Calls Tryd.prog 23 #[.pointer (some ⟨p, 0, none⟩)] w fun e w' => e = .returned (errV (Um.stepF s)) ∧ Lg base w' p k (Um.stepS s) ∧ Wrote w w' p k k := by
  have ve := errV_none
  have q1 := errG
  have q2 := errGn
  have q3 := errE
  have q4 := errN
  obtain ⟨kv, rfl, hb, ho⟩ := (id hL).cells
  have x3 : w.cell? ⟨p, 3, none⟩ = some (.int .i64 s.left) := hb.cell 3 rfl
  have x4 : w.cell? ⟨p, 4, none⟩ = some (.bool s.stop) := hb.cell 4 rfl
  have f3 := hb.free 3
  have f4 := hb.free 4
  have h0 : ¬ s.left = 0 := by omega
  have HF : Hid (Um.stepF s = 0) := hid (by unfold Um.stepF; rw [if_neg h0])
  have HS : Hid (Um.stepS s = { s with left := s.left - 1 }) := hid (by unfold Um.stepS; rw [if_neg h0]; rw [if_pos h])
  have HOK := hid (Um.step_ok hL.ok)
  have HAP := hid hL.apart
  have HGE := hid hL.ge
  have hlo := hL.ok.low
  have hhi := hL.ok.high
  have t1 : (s.left == 0) = false := beq_false_of_ne h0
  have t2 : decide (0 < s.left) = true := decide_eq_true h
  clear hL
  generalize hv : s.left = lf at *
  have HV := hid hv
  clear hv
  go_enter Tryd.func23, Tryd.ntmps23
  go_wp2
  go_returns
  rw [HF.out]
  refine ⟨rfl, ⟨HOK.out, HGE.out, ⟨kv, rfl, ?_, ?_⟩, HAP.out⟩, Wrote.set _ _ _ _ _⟩
  · rw [HS.out]
    exact hb.set 3 _ rfl
  · rw [HS.out]
    exact owns_other ho HAP.out

set_option maxRecDepth 100000 in
set_option maxHeartbeats 8000000 in
theorem lgStep_never (base p : Nat) (k : Option Nat) (s : Um.LogS) (w : World) (hL : Lg base w p k s) (h : s.left < 0) :
    Calls Tryd.prog 23 #[.pointer (some ⟨p, 0, none⟩)] w fun e w' => e = .returned (errV (Um.stepF s)) ∧ Lg base w' p k (Um.stepS s) ∧ Wrote w w' p k k := by
  have ve := errV_none
  have q1 := errG
  have q2 := errGn
  have q3 := errE
  have q4 := errN
  obtain ⟨kv, rfl, hb, ho⟩ := (id hL).cells
  have x3 : w.cell? ⟨p, 3, none⟩ = some (.int .i64 s.left) := hb.cell 3 rfl
  have x4 : w.cell? ⟨p, 4, none⟩ = some (.bool s.stop) := hb.cell 4 rfl
  have f3 := hb.free 3
  have f4 := hb.free 4
  have h0 : ¬ s.left = 0 := by omega
  have HF : Hid (Um.stepF s = 0) := hid (by unfold Um.stepF; rw [if_neg h0])
  have HS : Hid (Um.stepS s = { s with left := s.left }) := hid (by unfold Um.stepS; rw [if_neg h0]; rw [if_neg (by omega)])
  have HOK := hid (Um.step_ok hL.ok)
  have HAP := hid hL.apart
  have HGE := hid hL.ge
  have hlo := hL.ok.low
  have hhi := hL.ok.high
  have t1 : (s.left == 0) = false := beq_false_of_ne h0
  have t2 : decide (0 < s.left) = false := decide_eq_false (by omega)
  clear hL
  generalize hv : s.left = lf at *
  have HV := hid hv
  clear hv
  go_enter Tryd.func23, Tryd.ntmps23
  go_wp2
  go_returns
  rw [HF.out]
  refine ⟨rfl, ⟨HOK.out, HGE.out, ⟨kv, rfl, ?_, ?_⟩, HAP.out⟩, Wrote.none (Below.refl _ _)⟩
  · rw [HS.out]
    exact hb
  · rw [HS.out]
    exact ho

theorem lgStep_any (base p : Nat) (k : Option Nat) (s : Um.LogS) (w : World) (hL : Lg base w p k s) :
    Calls Tryd.prog 23 #[.pointer (some ⟨p, 0, none⟩)] w fun e w' => e = .returned (errV (Um.stepF s)) ∧ Lg base w' p k (Um.stepS s) ∧ Wrote w w' p k k := by
  by_cases h : s.left = 0
  · exact lgStep_zero base p k s w hL h
  · by_cases h2 : 0 < s.left
    · exact lgStep_more base p k s w hL h2
    · exact lgStep_never base p k s w hL (by omega)

/-- The whole records of a Log. -/
theorem lgWhole (base : Nat) (s : Um.LogS) (kv : Value) (w : World) (hok : s.Ok) (ho : w.ownsRow base 5 1 kv s.bytes.length (bytesV s.bytes)) :
    Calls Tryd.prog 26 #[kv] w fun e w' => ∃ a c, e = .returned (.slice a s.done.length c) ∧ Lw w'.heap.size w' (.slice a s.done.length c) (s.done.map Um.recB) ∧ Below w.heap.size w w' := by
  refine (whole_any s.sides s.done s.half kv w (lu_owns ho) hok.s3 (fun b hb => (hok.box b hb).2) hok.tail hok.many).mono ?_
  rintro e w' ⟨r, rfl, hr, hb⟩
  obtain ⟨a, c, er, -⟩ := (id hr)
  rw [List.length_map] at er
  subst er
  exact ⟨a, c, rfl, hr, hb⟩

set_option maxRecDepth 100000 in
set_option maxHeartbeats 8000000 in
theorem lgRef_stop (base p : Nat) (k : Option Nat) (s : Um.LogS) (b : List (Int × Int)) (v : Value) (w : World) (hL : Lg base w p k s) (hs : Ls w.heap.size w v b) (h : s.stop = true) :
    Calls Tryd.prog 21 #[.pointer (some ⟨p, 0, none⟩), v] w fun e w' => e = .returned (errV (Um.refF s b)) ∧ Below w.heap.size w w' := by
  have ve := errV_none
  have q1 := errG
  have q2 := errGn
  have q3 := errE
  have q4 := errN
  obtain ⟨kv, rfl, hb, ho⟩ := (id hL).cells
  have x0 : w.cell? ⟨p, 0, none⟩ = some (.int .i64 (s.sides : Int)) := hb.cell 0 rfl
  have x1 : w.cell? ⟨p, 1, none⟩ = some (kv) := hb.cell 1 rfl
  have x4 : w.cell? ⟨p, 4, none⟩ = some (.bool s.stop) := hb.cell 4 rfl
  obtain ⟨ak, ck, rfl⟩ := owns_slice ho
  obtain ⟨av, cv, rfl, -⟩ := (id hs)
  have HM : Hid (Um.refF s b = 6) := hid (by unfold Um.refF; rw [if_pos h])
  rw [h] at x4
  go_enter Tryd.func21, Tryd.ntmps21
  go_wp2
  go_returns
  rw [HM.out]
  exact ⟨rfl, Below.refl _ _⟩

set_option maxRecDepth 100000 in
set_option maxHeartbeats 8000000 in
theorem lgRef_full (base p : Nat) (k : Option Nat) (s : Um.LogS) (b : List (Int × Int)) (v : Value) (w : World) (hL : Lg base w p k s) (hs : Ls w.heap.size w v b) (h : s.stop = false) (h2 : 20 ≤ s.done.length) :
    Calls Tryd.prog 21 #[.pointer (some ⟨p, 0, none⟩), v] w fun e w' => e = .returned (errV (Um.refF s b)) ∧ Below w.heap.size w w' := by
  have ve := errV_none
  have q1 := errG
  have q2 := errGn
  have q3 := errE
  have q4 := errN
  obtain ⟨kv, rfl, hb, ho⟩ := (id hL).cells
  have x0 : w.cell? ⟨p, 0, none⟩ = some (.int .i64 (s.sides : Int)) := hb.cell 0 rfl
  have x1 : w.cell? ⟨p, 1, none⟩ = some (kv) := hb.cell 1 rfl
  have x4 : w.cell? ⟨p, 4, none⟩ = some (.bool s.stop) := hb.cell 4 rfl
  obtain ⟨ak, ck, rfl⟩ := owns_slice ho
  obtain ⟨av, cv, rfl, -⟩ := (id hs)
  have hst : ¬ s.stop = true := by rw [h]; decide
  have HM : Hid (Um.refF s b = 4) := hid (by unfold Um.refF; rw [if_neg hst, if_pos h2])
  rw [h] at x4
  have HWH := fun w ho => hid (lgWhole base s (.slice ak s.bytes.length ck) w hL.ok ho)
  have d1 : decide ((20 : Int) ≤ (s.done.length : Int)) = true := decide_eq_true (by omega)
  generalize hD : s.done.length = D at *
  clear hD h h2
  go_enter Tryd.func21, Tryd.ntmps21
  go_wp2_with (first | (go_at_call 26; refine (HWH _ ho).out.mono ?_; rintro e wn ⟨ar, cr, rfl, hr, hB⟩; replace hs := hs.step hB; have z0 := (hb.step hB).cell 0 (v := .int .i64 (s.sides : Int)) rfl; clear HWH hr))
  go_returns
  rw [HM.out]
  exact ⟨rfl, hB⟩

set_option maxRecDepth 100000 in
set_option maxHeartbeats 8000000 in
theorem lgRef_box (base p : Nat) (k : Option Nat) (s : Um.LogS) (b : List (Int × Int)) (v : Value) (w : World) (hL : Lg base w p k s) (hs : Ls w.heap.size w v b) (h : s.stop = false) (h2 : s.done.length < 20) (h3 : ¬ Um.boxF b = 0) :
    Calls Tryd.prog 21 #[.pointer (some ⟨p, 0, none⟩), v] w fun e w' => e = .returned (errV (Um.refF s b)) ∧ Below w.heap.size w w' := by
  have ve := errV_none
  have q1 := errG
  have q2 := errGn
  have q3 := errE
  have q4 := errN
  obtain ⟨kv, rfl, hb, ho⟩ := (id hL).cells
  have x0 : w.cell? ⟨p, 0, none⟩ = some (.int .i64 (s.sides : Int)) := hb.cell 0 rfl
  have x1 : w.cell? ⟨p, 1, none⟩ = some (kv) := hb.cell 1 rfl
  have x4 : w.cell? ⟨p, 4, none⟩ = some (.bool s.stop) := hb.cell 4 rfl
  obtain ⟨ak, ck, rfl⟩ := owns_slice ho
  obtain ⟨av, cv, rfl, -⟩ := (id hs)
  have hst : ¬ s.stop = true := by rw [h]; decide
  have HM : Hid (Um.refF s b = Um.boxF b) := hid (by unfold Um.refF; rw [if_neg hst, if_neg (by omega), if_neg h3])
  rw [h] at x4
  have HWH := fun w ho => hid (lgWhole base s (.slice ak s.bytes.length ck) w hL.ok ho)
  have HCK := fun w hs => hid (bcheck_any b (.slice av b.length cv) w hs)
  have d1 : decide ((20 : Int) ≤ (s.done.length : Int)) = false := decide_eq_false (by omega)
  generalize hD : s.done.length = D at *
  clear hD h h2
  have kG : (Um.boxF b != 0) = true := by simpa using h3
  clear h3
  generalize Um.boxF b = G at *
  go_enter Tryd.func21, Tryd.ntmps21
  go_wp2_with (first | (go_at_call 26; refine (HWH _ ho).out.mono ?_; rintro e wn ⟨ar, cr, rfl, hr, hB⟩; replace hs := hs.step hB; have z0 := (hb.step hB).cell 0 (v := .int .i64 (s.sides : Int)) rfl; clear HWH hr) | (go_at_call 13; refine (HCK _ hs).out.mono ?_; rintro e wm ⟨rfl, hb2⟩; have z1 := (hb2.cell (p := ⟨p, 0, none⟩) (Nat.lt_of_lt_of_le hb.lt hB.size)).trans z0; replace hB := hB.trans (hb2.mono hB.size); clear HCK hb2))
  go_returns
  rw [HM.out]
  exact ⟨rfl, hB⟩

set_option maxRecDepth 100000 in
set_option maxHeartbeats 8000000 in
theorem lgRef_shape (base p : Nat) (k : Option Nat) (s : Um.LogS) (b : List (Int × Int)) (v : Value) (w : World) (hL : Lg base w p k s) (hs : Ls w.heap.size w v b) (h : s.stop = false) (h2 : s.done.length < 20) (h3 : Um.boxF b = 0) (h4 : ¬ b.length = s.sides) :
    Calls Tryd.prog 21 #[.pointer (some ⟨p, 0, none⟩), v] w fun e w' => e = .returned (errV (Um.refF s b)) ∧ Below w.heap.size w w' := by
  have ve := errV_none
  have q1 := errG
  have q2 := errGn
  have q3 := errE
  have q4 := errN
  obtain ⟨kv, rfl, hb, ho⟩ := (id hL).cells
  have x0 : w.cell? ⟨p, 0, none⟩ = some (.int .i64 (s.sides : Int)) := hb.cell 0 rfl
  have x1 : w.cell? ⟨p, 1, none⟩ = some (kv) := hb.cell 1 rfl
  have x4 : w.cell? ⟨p, 4, none⟩ = some (.bool s.stop) := hb.cell 4 rfl
  obtain ⟨ak, ck, rfl⟩ := owns_slice ho
  obtain ⟨av, cv, rfl, -⟩ := (id hs)
  have hst : ¬ s.stop = true := by rw [h]; decide
  have HM : Hid (Um.refF s b = 3) := hid (by unfold Um.refF; rw [if_neg hst, if_neg (by omega), if_pos h3, if_neg h4])
  rw [h] at x4
  have HWH := fun w ho => hid (lgWhole base s (.slice ak s.bytes.length ck) w hL.ok ho)
  have HCK := fun w hs => hid (bcheck_any b (.slice av b.length cv) w hs)
  have d1 : decide ((20 : Int) ≤ (s.done.length : Int)) = false := decide_eq_false (by omega)
  generalize hD : s.done.length = D at *
  clear hD h h2
  have kG : (Um.boxF b != 0) = false := by simpa using h3
  have k4 : ((b.length : Int) == (s.sides : Int)) = false := beq_false_of_ne (by omega)
  have k5 : ((b.length : Int) != (s.sides : Int)) = true := by rw [bne, k4]; rfl
  clear h3
  generalize Um.boxF b = G at *
  go_enter Tryd.func21, Tryd.ntmps21
  go_wp2_with (first | (go_at_call 26; refine (HWH _ ho).out.mono ?_; rintro e wn ⟨ar, cr, rfl, hr, hB⟩; replace hs := hs.step hB; have z0 := (hb.step hB).cell 0 (v := .int .i64 (s.sides : Int)) rfl; clear HWH hr) | (go_at_call 13; refine (HCK _ hs).out.mono ?_; rintro e wm ⟨rfl, hb2⟩; have z1 := (hb2.cell (p := ⟨p, 0, none⟩) (Nat.lt_of_lt_of_le hb.lt hB.size)).trans z0; replace hB := hB.trans (hb2.mono hB.size); clear HCK hb2))
  go_returns
  rw [HM.out]
  exact ⟨rfl, hB⟩

set_option maxRecDepth 100000 in
set_option maxHeartbeats 8000000 in
theorem lgRef_ok (base p : Nat) (k : Option Nat) (s : Um.LogS) (b : List (Int × Int)) (v : Value) (w : World) (hL : Lg base w p k s) (hs : Ls w.heap.size w v b) (h : s.stop = false) (h2 : s.done.length < 20) (h3 : Um.boxF b = 0) (h4 : b.length = s.sides) :
    Calls Tryd.prog 21 #[.pointer (some ⟨p, 0, none⟩), v] w fun e w' => e = .returned (errV (Um.refF s b)) ∧ Below w.heap.size w w' := by
  have ve := errV_none
  have q1 := errG
  have q2 := errGn
  have q3 := errE
  have q4 := errN
  obtain ⟨kv, rfl, hb, ho⟩ := (id hL).cells
  have x0 : w.cell? ⟨p, 0, none⟩ = some (.int .i64 (s.sides : Int)) := hb.cell 0 rfl
  have x1 : w.cell? ⟨p, 1, none⟩ = some (kv) := hb.cell 1 rfl
  have x4 : w.cell? ⟨p, 4, none⟩ = some (.bool s.stop) := hb.cell 4 rfl
  obtain ⟨ak, ck, rfl⟩ := owns_slice ho
  obtain ⟨av, cv, rfl, -⟩ := (id hs)
  have hst : ¬ s.stop = true := by rw [h]; decide
  have HM : Hid (Um.refF s b = 0) := hid (by unfold Um.refF; rw [if_neg hst, if_neg (by omega), if_pos h3, if_pos h4])
  rw [h] at x4
  have HWH := fun w ho => hid (lgWhole base s (.slice ak s.bytes.length ck) w hL.ok ho)
  have HCK := fun w hs => hid (bcheck_any b (.slice av b.length cv) w hs)
  have d1 : decide ((20 : Int) ≤ (s.done.length : Int)) = false := decide_eq_false (by omega)
  generalize hD : s.done.length = D at *
  clear hD h h2
  have kG : (Um.boxF b != 0) = false := by simpa using h3
  have k4 : ((b.length : Int) == (s.sides : Int)) = true := by simp; omega
  have k5 : ((b.length : Int) != (s.sides : Int)) = false := by rw [bne, k4]; rfl
  clear h3 h4
  generalize Um.boxF b = G at *
  go_enter Tryd.func21, Tryd.ntmps21
  go_wp2_with (first | (go_at_call 26; refine (HWH _ ho).out.mono ?_; rintro e wn ⟨ar, cr, rfl, hr, hB⟩; replace hs := hs.step hB; have z0 := (hb.step hB).cell 0 (v := .int .i64 (s.sides : Int)) rfl; clear HWH hr) | (go_at_call 13; refine (HCK _ hs).out.mono ?_; rintro e wm ⟨rfl, hb2⟩; have z1 := (hb2.cell (p := ⟨p, 0, none⟩) (Nat.lt_of_lt_of_le hb.lt hB.size)).trans z0; replace hB := hB.trans (hb2.mono hB.size); clear HCK hb2))
  go_returns
  rw [HM.out]
  exact ⟨rfl, hB⟩

theorem lgRef_any (base p : Nat) (k : Option Nat) (s : Um.LogS) (b : List (Int × Int)) (v : Value) (w : World) (hL : Lg base w p k s) (hs : Ls w.heap.size w v b) :
    Calls Tryd.prog 21 #[.pointer (some ⟨p, 0, none⟩), v] w fun e w' => e = .returned (errV (Um.refF s b)) ∧ Below w.heap.size w w' := by
  cases h : s.stop with
  | true => exact lgRef_stop base p k s b v w hL hs h
  | false =>
    by_cases h2 : 20 ≤ s.done.length
    · exact lgRef_full base p k s b v w hL hs h h2
    · by_cases h3 : Um.boxF b = 0
      · by_cases h4 : b.length = s.sides
        · exact lgRef_ok base p k s b v w hL hs h (by omega) h3 h4
        · exact lgRef_shape base p k s b v w hL hs h (by omega) h3 h4
      · exact lgRef_box base p k s b v w hL hs h (by omega) h3

set_option maxRecDepth 100000 in
set_option maxHeartbeats 8000000 in
theorem lgFail (base p : Nat) (k : Option Nat) (s : Um.LogS) (n : Int) (w : World) (hL : Lg base w p k s) (hn : n ≤ 9223372036854775807) :
    Calls Tryd.prog 7 #[.pointer (some ⟨p, 0, none⟩), .int .i64 n] w fun e w' => e = .returned (.tuple #[]) ∧ Lg base w' p k (Um.failS s n) ∧ Wrote w w' p k k := by
  have ve := errV_none
  have q1 := errG
  have q2 := errGn
  have q3 := errE
  have q4 := errN
  obtain ⟨kv, rfl, hb, ho⟩ := (id hL).cells
  have x3 : w.cell? ⟨p, 3, none⟩ = some (.int .i64 s.left) := hb.cell 3 rfl
  have f3 := hb.free 3
  have HOK := hid (Um.fail_ok hL.ok hn)
  have HAP := hid hL.apart
  have HGE := hid hL.ge
  clear hL
  go_enter Tryd.func7, Tryd.ntmps7
  go_wp2
  go_returns
  refine ⟨rfl, ⟨HOK.out, HGE.out, ⟨kv, rfl, ?_, ?_⟩, HAP.out⟩, Wrote.set _ _ _ _ _⟩
  · exact hb.set 3 _ rfl
  · exact owns_other ho HAP.out

set_option maxRecDepth 100000 in
set_option maxHeartbeats 8000000 in
theorem lgSync_stop (base p : Nat) (k : Option Nat) (s : Um.LogS) (w : World) (hL : Lg base w p k s) (h : s.stop = true) :
    Calls Tryd.prog 10 #[.pointer (some ⟨p, 0, none⟩)] w fun e w' => e = .returned (errV (Um.syncF s)) ∧ Lg base w' p k (Um.syncS s) ∧ Wrote w w' p k k := by
  have ve := errV_none
  have q1 := errG
  have q2 := errGn
  have q3 := errE
  have q4 := errN
  obtain ⟨kv, rfl, hb, ho⟩ := (id hL).cells
  have x4 : w.cell? ⟨p, 4, none⟩ = some (.bool s.stop) := hb.cell 4 rfl
  have HF : Hid (Um.syncF s = 6 ∧ Um.syncS s = s) := hid (by unfold Um.syncF Um.syncS; rw [if_pos h, if_pos h]; exact ⟨rfl, rfl⟩)
  rw [h] at x4
  clear h
  go_enter Tryd.func10, Tryd.ntmps10
  go_wp2
  go_returns
  rw [HF.out.1, HF.out.2]
  exact ⟨rfl, hL, Wrote.none (Below.refl _ _)⟩

set_option maxRecDepth 100000 in
set_option maxHeartbeats 8000000 in
theorem lgSync_zero (base p : Nat) (k : Option Nat) (s : Um.LogS) (w : World) (hL : Lg base w p k s) (h : s.stop = false) (h0 : s.left = 0) :
    Calls Tryd.prog 10 #[.pointer (some ⟨p, 0, none⟩)] w fun e w' => e = .returned (errV (Um.syncF s)) ∧ Lg base w' p k (Um.syncS s) ∧ Wrote w w' p k k := by
  have ve := errV_none
  have q1 := errG
  have q2 := errGn
  have q3 := errE
  have q4 := errN
  obtain ⟨kv, rfl, hb, ho⟩ := (id hL).cells
  have x4 : w.cell? ⟨p, 4, none⟩ = some (.bool s.stop) := hb.cell 4 rfl
  have hst : ¬ s.stop = true := by rw [h]; decide
  have HF : Hid (Um.syncF s = Um.stepF s ∧ Um.syncS s = Um.stepS s) := hid (by unfold Um.syncF Um.syncS Um.stepS; rw [if_neg hst, if_neg hst, if_pos h0, if_pos h0]; exact ⟨rfl, rfl⟩)
  have HST := fun w hL => hid (lgStep_any base p kv.ownBlock s w hL)
  have kG : (Um.stepF s != 0) = true := by unfold Um.stepF; rw [if_pos h0]; rfl
  rw [h] at x4
  clear h h0 hst
  generalize Um.stepF s = G at *
  go_enter Tryd.func10, Tryd.ntmps10
  go_wp2_with (go_at_call 23; refine (HST _ hL).out.mono ?_; rintro e wn ⟨rfl, hL2, hW⟩; clear HST)
  go_returns
  rw [HF.out.1, HF.out.2]
  exact ⟨rfl, hL2, hW⟩

set_option maxRecDepth 100000 in
set_option maxHeartbeats 8000000 in
theorem lgSync_yes (base p : Nat) (k : Option Nat) (s : Um.LogS) (w : World) (hL : Lg base w p k s) (h : s.stop = false) (h0 : ¬ s.left = 0) :
    Calls Tryd.prog 10 #[.pointer (some ⟨p, 0, none⟩)] w fun e w' => e = .returned (errV (Um.syncF s)) ∧ Lg base w' p k (Um.syncS s) ∧ Wrote w w' p k k := by
  have ve := errV_none
  have q1 := errG
  have q2 := errGn
  have q3 := errE
  have q4 := errN
  obtain ⟨kv, rfl, hb, ho⟩ := (id hL).cells
  have x4 : w.cell? ⟨p, 4, none⟩ = some (.bool s.stop) := hb.cell 4 rfl
  have hst : ¬ s.stop = true := by rw [h]; decide
  have HF : Hid (Um.syncF s = 0 ∧ Um.syncS s = { Um.stepS s with safe := s.bytes.length }) := hid (by unfold Um.syncF Um.syncS Um.stepS Um.stepF; rw [if_neg hst, if_neg hst, if_neg h0, if_neg h0, if_neg h0]; exact ⟨rfl, rfl⟩)
  have HBY : Hid ((Um.stepS s).bytes = s.bytes ∧ Um.LogS.bytes { Um.stepS s with safe := s.bytes.length } = s.bytes) := hid (by unfold Um.stepS Um.LogS.bytes; rw [if_neg h0]; exact ⟨rfl, rfl⟩)
  have HOK := hid (Um.sync_ok hL.ok)
  have HST := fun w hL => hid (lgStep_any base p kv.ownBlock s w hL)
  have kG : (Um.stepF s != 0) = false := by unfold Um.stepF; rw [if_neg h0]; rfl
  rw [h] at x4
  clear h h0 hst
  generalize Um.stepF s = G at *
  go_enter Tryd.func10, Tryd.ntmps10
  go_wp2_with fail
  refine (HST _ hL).out.mono ?_
  rintro e wn ⟨rfl, hL2, hW⟩
  clear HST
  obtain ⟨kv2, e2, hb2, ho2⟩ := (id hL2).cells
  have z1 : wn.cell? ⟨p, 1, none⟩ = some kv2 := hb2.cell 1 rfl
  have z2 : wn.cell? ⟨p, 2, none⟩ = some (.int .i64 ((Um.stepS s).safe : Int)) := hb2.cell 2 rfl
  have zf := hb2.free 2
  rw [HBY.out.1] at ho2
  obtain ⟨ak, ck, ek⟩ := owns_slice ho2
  subst ek
  have HAP := hid hL2.apart
  have HGE := hid hL2.ge
  have HB2 := hid hb2
  have HO2 := hid ho2
  clear hL2 hb2 ho2 hL
  obtain ⟨N, hN⟩ : ∃ N, N = s.bytes.length := ⟨_, rfl⟩
  rw [← hN] at z1 HF HO2 HBY HB2 e2
  have HN := hid hN
  clear hN ho hb
  generalize (Um.stepS s).safe = SF at *
  go_wp2
  go_returns
  rw [HF.out.1]
  refine ⟨by rw [errV_none]; rfl, ⟨HOK.out, HGE.out, ⟨.slice ak N ck, e2, ?_, ?_⟩, HAP.out⟩, hW.trans (Wrote.set _ _ _ _ _)⟩
  · rw [HF.out.2]
    exact HB2.out.set 2 _ rfl
  · rw [HF.out.2, HBY.out.2, ← HN.out]
    exact owns_other HO2.out (by rw [e2]; exact HAP.out)

theorem lgSync (base p : Nat) (k : Option Nat) (s : Um.LogS) (w : World) (hL : Lg base w p k s) :
    Calls Tryd.prog 10 #[.pointer (some ⟨p, 0, none⟩)] w fun e w' => e = .returned (errV (Um.syncF s)) ∧ Lg base w' p k (Um.syncS s) ∧ Wrote w w' p k k := by
  cases h : s.stop with
  | true => exact lgSync_stop base p k s w hL h
  | false =>
    by_cases h0 : s.left = 0
    · exact lgSync_zero base p k s w hL h h0
    · exact lgSync_yes base p k s w hL h h0

set_option maxRecDepth 100000 in
set_option maxHeartbeats 8000000 in
theorem lgPut_not (base p : Nat) (k : Option Nat) (s : Um.LogS) (b : List (Int × Int)) (v : Value) (w : World) (hL : Lg base w p k s) (hs : Ls w.heap.size w v b) (h : ¬ Um.refF s b = 0) :
    Calls Tryd.prog 8 #[.pointer (some ⟨p, 0, none⟩), v] w fun e w' => ∃ k', e = .returned (errV (Um.putF s b)) ∧ Lg base w' p k' (Um.putS s b) ∧ Wrote w w' p k k' := by
  have ve := errV_none
  have q1 := errG
  have q2 := errGn
  have q3 := errE
  have q4 := errN
  obtain ⟨av, cv, rfl, -⟩ := (id hs)
  have HF := hid (Um.put_not h)
  have HRF := fun w hL hs => hid (lgRef_any base p k s b (.slice av b.length cv) w hL hs)
  have kG : (Um.refF s b != 0) = true := by simpa using h
  clear h
  generalize Um.refF s b = G at *
  go_enter Tryd.func8, Tryd.ntmps8
  go_wp2_with (go_at_call 21; refine (HRF _ hL hs).out.mono ?_; rintro e wn ⟨rfl, hB⟩; clear HRF)
  go_returns
  rw [HF.out.1, HF.out.2]
  exact ⟨k, rfl, hL.step hB, Wrote.none hB⟩

theorem lu_blk {w w' : World} {v : Value} {l : List Int} (h : Lu w.heap.size w v l) (hq : ∀ g, v.ownBlock = some g → w'.heap[g]? = w.heap[g]?) (hsz : w.heap.size ≤ w'.heap.size) : Lu w'.heap.size w' v l := by
  obtain ⟨a, cap, e, hc, h2⟩ := h
  refine ⟨a, cap, e, hc, h2.imp id ?_⟩
  rintro ⟨b, off, e2, hlt, hh⟩
  refine ⟨b, off, e2, by omega, fun j hj => ?_⟩
  rw [← hh j hj]
  have := hq b (by rw [e, e2]; rfl)
  unfold World.cell?
  rw [this]

set_option maxRecDepth 100000 in
set_option maxHeartbeats 16000000 in
theorem lgPut_yes (base p : Nat) (k : Option Nat) (s : Um.LogS) (b : List (Int × Int)) (v : Value) (w : World) (hL : Lg base w p k s) (hs : Ls w.heap.size w v b) (h : Um.refF s b = 0) (h0 : ¬ s.left = 0) :
    Calls Tryd.prog 8 #[.pointer (some ⟨p, 0, none⟩), v] w fun e w' => ∃ k', e = .returned (errV (Um.putF s b)) ∧ Lg base w' p k' (Um.putS s b) ∧ Wrote w w' p k k' := by
  have ve := errV_none
  have q1 := errG
  have q2 := errGn
  have q3 := errE
  have q4 := errN
  obtain ⟨i0, hi0, hz0, hz1, hz2⟩ := info_parts info_byte
  obtain ⟨av, cv, rfl, -⟩ := (id hs)
  obtain ⟨q1', q2', q3', q4'⟩ := Um.ref_ok.1 h
  obtain ⟨hb0, hb3⟩ := Um.box_len q3'
  have HF := hid (Um.put_yes h h0)
  have HOK := hid (Um.put_ok (b := b) hL.ok)
  have HRF := fun w hL hs => hid (lgRef_any base p k s b (.slice av b.length cv) w hL hs)
  obtain ⟨R, hR⟩ : ∃ R, R = (Um.recB b).length := ⟨_, rfl⟩
  have HWR := fun w hs => hid (show Calls Tryd.prog 22 #[.slice av b.length cv] w fun e w' => ∃ u, e = .returned u ∧ w'.ownsRow w.heap.size 5 1 u R (bytesV (Um.recB b)) ∧ Below w.heap.size w w' from by rw [hR]; exact written_any b (.slice av b.length cv) w hs (Um.box_ok.1 q3').1 hb3)
  have HR : Hid ((Um.recB b).length = R) := hid hR.symm
  have HST := fun w hL => hid (lgStep_any base p k s w hL)
  have HSS : Hid (Um.stepS s = { s with left := if 0 < s.left then s.left - 1 else s.left }) := hid (by unfold Um.stepS; rw [if_neg h0])
  have HBY : Hid ((Um.stepS s).bytes = s.bytes) := hid (by rw [HSS.out]; rfl)
  have HNB : Hid ((Um.putS s b).bytes = s.bytes ++ Um.recB b) := hid (by
    rw [HF.out.2]
    unfold Um.LogS.bytes
    show Um.recsB (s.done ++ [b]) ++ s.half = _
    rw [hL.ok.on q1', Um.recsB_append]
    show _ ++ (Um.recB b ++ []) ++ [] = _
    simp only [List.append_nil])
  have HRN : Hid (Um.recB b ≠ []) := hid (by unfold Um.recB; exact List.cons_ne_nil _ _)
  have h525 := hL.ok.small
  have kG : (Um.refF s b != 0) = false := by simpa using h
  have kS : (Um.stepF s != 0) = false := by unfold Um.stepF; rw [if_neg h0]; rfl
  have hRL : R ≤ 25 := by rw [hR, Um.recB_len]; omega
  clear hR h h0 q1' q2' q3' q4'
  generalize Um.refF s b = G at *
  generalize Um.stepF s = GS at *
  go_enter Tryd.func8, Tryd.ntmps8
  go_wp2_with (go_at_call 21; refine (HRF _ hL hs).out.mono ?_; rintro e wn ⟨rfl, hB⟩; clear HRF)
  go_wp2_with fail
  refine (HWR _ (hs.step hB)).out.mono ?_
  rintro e wq ⟨ur, rfl, hor, hBr⟩
  have hL1 := (hL.step hB).step hBr
  have hpl := (hL.step hB).lt
  have hkl := fun j e => ((hL.step hB).from j e).2
  have hLr : Lu wq.heap.size wq ur (Um.recB b) := lu_owns (by rw [HR.out]; exact hor)
  have hrf := owns_from hor
  have hrl := fun g e => (hor.lt g e).2
  obtain ⟨arr, crr, err⟩ := owns_slice hor
  subst err
  have HB1 := hid (hB.trans (hBr.mono hB.size))
  clear hor hBr hB HWR hs
  go_wp2_with fail
  refine (HST _ hL1).out.mono ?_
  rintro e wm ⟨rfl, hL2, hW⟩
  replace hLr := lu_blk hLr (fun g e => (hW.other (hrl g e) (by have := hrf g e; omega) (fun e2 => by have := hrf g e; have := hkl g e2; omega)).1) hW.size
  have HW := hid ((Wrote.none (p := p) (k := k) HB1.out).trans hW)
  clear HST hL1 hW hrf hrl hkl hpl HB1
  obtain ⟨kv, ek, hb2, ho2⟩ := (id hL2).cells
  rw [HBY.out] at ho2
  obtain ⟨ak, ck, ev⟩ := owns_slice ho2
  subst ev
  have z1 : wm.cell? ⟨p, 1, none⟩ = some (.slice ak s.bytes.length ck) := hb2.cell 1 rfl
  have HAP := hid hL2.apart
  have HGE := hid hL2.ge
  have HLT := hid hL2.lt
  have HFR := hid hL2.from
  have HB2 := hid hb2
  have HO2 := hid ho2
  have hsz : base ≤ wm.heap.size := Nat.le_of_lt (Nat.lt_of_le_of_lt hL2.ge hL2.lt)
  obtain ⟨N, hN⟩ : ∃ N, N = s.bytes.length := ⟨_, rfl⟩
  rw [← hN] at z1 HO2 ek HB2 h525
  have HN := hid hN
  clear hN hb2 ho2 hL2 hL
  obtain ⟨gr, og, cr2, er2, hcr, hlr, hqr⟩ := hLr.out HRN.out
  rw [HR.out] at er2 hcr
  cases er2
  have HCR := hid hqr
  clear hLr hqr hlr
  go_wp2_with (at_builtin; refine wpList_append_own_at _ rfl _ _ 48 rfl base 5 i0 (.int .u8 0) 1 1 Tryd.underlying48 hi0 hz0 hz1 hz2 rfl (by decide) _ _ _ rfl HO2.out _ R _ (bytesV (Um.recB b)) rfl (by rw [List.length_map, Nat.mul_one]; exact HR.out) (bytes_cells HCR.out) (bytes_one _) (by unfold maxLen; omega) (by omega) hsz ?_; intro v' w1 hown' hgrow _ hat; have HG1 : Hid (wm.grownBy w1 (Value.slice ak N ck).ownBlock) := hid hgrow; have HAT : Hid (v'.ownBlock = (Value.slice ak N ck).ownBlock ∨ v'.ownBlock = some wm.heap.size) := hid hat; have HO3 := hid hown'; obtain ⟨a7, c7, e7⟩ := owns_slice hown'; subst e7; have hb3 := HB2.out.grown HG1.out (show (Value.slice ak N ck).ownBlock ≠ some p by rw [ek]; exact HAP.out); have z3 : w1.cell? ⟨p, 1, none⟩ = some (.slice ak N ck) := hb3.cell 1 rfl; have z4 := hb3.free 1; have HB3 := hid hb3; clear hgrow hat hown' hb3 z1)
  go_returns
  rw [HF.out.1]
  refine ⟨_, by rw [errV_none]; rfl, ⟨HOK.out, HGE.out, ⟨.slice a7 (N + R) c7, rfl, ?_, ?_⟩, ?_⟩, (HW.out.trans (Wrote.grown (k' := (Value.slice a7 (N + R) c7).ownBlock) (by rw [← ek]; exact HG1.out) (by rw [← ek]; exact HAT.out))).trans (Wrote.set _ _ _ _ _)⟩
  · rw [HF.out.2]
    have := HB3.out.set 1 (.slice a7 (N + R) c7) rfl
    rw [HSS.out] at this
    exact this
  · rw [HNB.out, List.length_append, HR.out, ← HN.out, bytesV_append]
    exact owns_other HO3.out (fun e => by
      rcases HAT.out with q | q
      · exact HAP.out (by rw [← ek, ← q]; exact e)
      · exact absurd (Option.some.inj (q.symm.trans e)) (Nat.ne_of_gt HLT.out))
  · intro e
    rcases HAT.out with q | q
    · exact HAP.out (by rw [← ek, ← q]; exact e)
    · exact absurd (Option.some.inj (q.symm.trans e)) (Nat.ne_of_gt HLT.out)
end Go.Proofs.YthgehlonjoafmaaDoor
