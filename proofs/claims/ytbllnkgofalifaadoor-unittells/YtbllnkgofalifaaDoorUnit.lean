/-
  What the functions of package unit that reckon answer: MayBe, around, nextTo, Times, By, at every argument.
-/
import Derived.Test.YtbllnkgofalifaaDoorAs
import Derived.Test.YtbllnkgofalifaaDoorMath
import Derived.RegionTactic
import Derived.ChangeAlike
import Derived.Deep.QuietTactic
import Derived.BigQuiet
import Derived.WalkLawsBesides
namespace Go.Proofs.YtbllnkgofalifaaDoor
set_option linter.unusedSimpArgs false
open Go.RowKit

/-- What is carried along a law's walk: of what was there when it began nothing has turned; errors.errorType is as laid. -/
structure Inv (w0 w : World) : Prop where
  below : Below w0.heap.size w0 w
  err : HasErr w
theorem Inv.start {w : World} (h : HasErr w) : Inv w w := ⟨Below.refl _ _, h⟩
theorem Inv.step {w0 w w' : World} (h : Inv w0 w) (k : Below w.heap.size w w') : Inv w0 w' := ⟨h.below.trans (k.mono h.below.size), h.err.below k h.err.size⟩
theorem hid {p : Prop} (h : p) : Hid p := h
theorem ret2i {a b c d : Int} (h1 : a = c) (h2 : b = d) : Ending.returned (.tuple #[.int .i64 a, .int .i64 b]) = .returned (.tuple #[.int .i64 c, .int .i64 d]) := by rw [h1, h2]
theorem w64 {x : Int} (h1 : -9223372036854775808 ≤ x) (h2 : x ≤ 9223372036854775807) : wrap64 x = x := IntWalk.wrap64_in _ ⟨h1, h2⟩

theorem mayBe_any (n : Int) (w : World) :
    Calls Tryd.prog 20 #[.int .i64 n] w fun e w' => e = .returned (.bool (Um.may n)) ∧ w' = w := by
  by_cases h : -1000000000 ≤ n
  · by_cases h' : n ≤ 1000000000
    · have hm : Hid (Um.may n = true) := (Um.may_iff n).2 ⟨h, h'⟩
      go_enter Tryd.func20, Tryd.ntmps20
      go_wp2
      go_ret
      exact ⟨by rw [hm.out]; simp, rfl⟩
    · have hm : Hid (Um.may n = false) := (Um.may_not n).2 (by omega)
      go_enter Tryd.func20, Tryd.ntmps20
      go_wp2
      go_ret
      exact ⟨by rw [hm.out]; simp, rfl⟩
  · have hm : Hid (Um.may n = false) := (Um.may_not n).2 (by omega)
    have hd : decide (-1000000000 ≤ n) = false := by simpa using h
    go_enter Tryd.func20, Tryd.ntmps20
    go_wp2
    go_ret
    exact ⟨by rw [hm.out]; simp, rfl⟩

set_option maxHeartbeats 1000000 in
theorem around_any (n d : Int) (w : World) (hd : ¬ d = 0) (h1 : -1000000000000000000 ≤ n) (h2 : n ≤ 1000000000000000000) :
    Calls Tryd.prog 28 #[.int .i64 n, .int .i64 d] w fun e w' => e = .returned (.tuple #[.int .i64 (Um.fl n d), .int .i64 (Um.ce n d)]) ∧ Below w.heap.size w w' := by
  have hb := Um.tdiv_le n d 1000000000000000000 h1 h2
  go_enter Tryd.func28, Tryd.ntmps28
  go_wp2
  go_quiet (fail)
  go_wp2
  · go_ret2
    obtain ⟨a, b⟩ := Um.way_zero hd ‹_›
    exact ⟨ret2i (by rw [a]; try exact w64 (by omega) (by omega)) (by rw [b]; try exact w64 (by omega) (by omega)), below_drewN (Below.refl _ _) _⟩
  · go_ret2
    obtain ⟨a, b⟩ := Um.way_down hd ‹_› ‹_›
    exact ⟨ret2i (by rw [a]; try rw [w64 (by omega) (by omega)]) (by rw [b]; try exact w64 (by omega) (by omega)), below_drewN (Below.refl _ _) _⟩
  · go_ret2
    obtain ⟨a, b⟩ := Um.way_up hd ‹_› ‹_›
    exact ⟨ret2i (by rw [a]; try exact w64 (by omega) (by omega)) (by rw [b]; try rw [w64 (by omega) (by omega)]), below_drewN (Below.refl _ _) _⟩

/-- An error that is told by its number: 0 is none. -/
def errV (k : Int) : Value := if k = 0 then .nilIface else .iface 44 (.int .i64 k)
theorem errV_none : errV 0 = .nilIface := rfl
theorem errV_some {k : Int} (h : ¬ k = 0) : errV k = .iface 44 (.int .i64 k) := by simp [errV, h]

theorem errG (k : Int) (j : Nat) (w : World) : (eqGuard BinOp.eql 29 (.tmp j) (.const .nilIface) (errV k) .nilIface).run Tryd.prog w = .ok () w := by
  unfold errV; split <;> simp [go_sem]
theorem errGn (k : Int) (j : Nat) (w : World) : (eqGuard BinOp.neq 29 (.tmp j) (.const .nilIface) (errV k) .nilIface).run Tryd.prog w = .ok () w := by
  unfold errV; split <;> simp [go_sem]
theorem errE (k : Int) (w : World) : (binOp .eql 29 (errV k) .nilIface).run Tryd.prog w = .ok (.bool (k == 0)) w := by
  unfold errV; split <;> rename_i h <;> simp [go_sem, h]
theorem errN (k : Int) (w : World) : (binOp .neq 29 (errV k) .nilIface).run Tryd.prog w = .ok (.bool (k != 0)) w := by
  unfold errV; split <;> rename_i h <;> simp [go_sem, h]

set_option maxHeartbeats 1000000 in
theorem nextTo_any (n d : Int) (w : World) (hd : ¬ d = 0) (h1 : -1000000000000000000 ≤ n) (h2 : n ≤ 1000000000000000000) :
    Calls Tryd.prog 21 #[.int .i64 n, .int .i64 d] w fun e w' => e = .returned (.tuple #[.int .i64 (Um.nextR n d).1, .int .i64 (Um.nextR n d).2.1, errV (Um.nextR n d).2.2]) ∧ Below w.heap.size w w' := by
  have H := around_any n d w hd h1 h2
  have HR : Hid (Um.nextR n d = if Um.may (Um.fl n d) = true ∧ Um.may (Um.ce n d) = true then (Um.fl n d, Um.ce n d, 0) else (0, 0, 4)) := rfl
  generalize Um.fl n d = lo at *
  generalize Um.ce n d = hi at *
  have HH := hid H
  clear H
  cases hl : Um.may lo
  · have HF : Hid (Um.nextR n d = (0, 0, 4)) := hid (by have := HR.out; rw [hl] at this; simpa using this)
    clear HR
    go_enter Tryd.func21, Tryd.ntmps21
    go_wp2_with (first | (go_at_call 28; refine HH.out.mono ?_; rintro e w1 ⟨rfl, hb⟩) | (go_at_call 20; refine (mayBe_any _ _).mono ?_; rintro e w' ⟨rfl, rfl⟩))
    go_ret3
    exact ⟨by rw [HF.out]; rfl, hb⟩
  · cases hh : Um.may hi
    · have HF : Hid (Um.nextR n d = (0, 0, 4)) := hid (by have := HR.out; rw [hh] at this; simpa using this)
      clear HR
      go_enter Tryd.func21, Tryd.ntmps21
      go_wp2_with (first | (go_at_call 28; refine HH.out.mono ?_; rintro e w1 ⟨rfl, hb⟩) | (go_at_call 20; refine (mayBe_any _ _).mono ?_; rintro e w' ⟨rfl, rfl⟩))
      go_ret3
      exact ⟨by rw [HF.out]; rfl, hb⟩
    · have HF : Hid (Um.nextR n d = (lo, hi, 0)) := hid (by have := HR.out; rw [hl, hh] at this; simpa using this)
      clear HR
      go_enter Tryd.func21, Tryd.ntmps21
      go_wp2_with (first | (go_at_call 28; refine HH.out.mono ?_; rintro e w1 ⟨rfl, hb⟩) | (go_at_call 20; refine (mayBe_any _ _).mono ?_; rintro e w' ⟨rfl, rfl⟩))
      go_ret3
      exact ⟨by rw [HF.out]; rfl, hb⟩

theorem res3_cases (n d : Int) : (Um.nextR n d).2.2 = 0 ∨ (Um.nextR n d).2.2 = 4 := by unfold Um.nextR; split <;> simp

set_option maxHeartbeats 1000000 in
theorem times_any (a b : Int) (w : World) :
    Calls Tryd.prog 9 #[.int .i64 a, .int .i64 b] w fun e w' => e = .returned (.tuple #[.int .i64 (Um.timesR a b).1, .int .i64 (Um.timesR a b).2.1, errV (Um.timesR a b).2.2]) ∧ Below w.heap.size w w' := by
  cases ha : Um.may a
  · have HF : Hid (Um.timesR a b = (0, 0, 1)) := by simp [Hid, Um.timesR, ha]
    go_enter Tryd.func9, Tryd.ntmps9
    go_wp2_with (go_at_call 20; refine (mayBe_any _ _).mono ?_; rintro e w' ⟨rfl, rfl⟩)
    go_ret3
    exact ⟨by rw [HF.out]; rfl, Below.refl _ _⟩
  · cases hb : Um.may b
    · have HF : Hid (Um.timesR a b = (0, 0, 1)) := by simp [Hid, Um.timesR, hb]
      go_enter Tryd.func9, Tryd.ntmps9
      go_wp2_with (go_at_call 20; refine (mayBe_any _ _).mono ?_; rintro e w' ⟨rfl, rfl⟩)
      go_ret3
      exact ⟨by rw [HF.out]; rfl, Below.refl _ _⟩
    · have HF : Hid (Um.timesR a b = Um.nextR (a * b) 1000) := by simp [Hid, Um.timesR, ha, hb]
      have hm := Um.mul_bound ha hb
      have h1 := hm.1
      have h2 := hm.2
      clear hm
      generalize hn : a * b = n at *
      go_enter Tryd.func9, Tryd.ntmps9
      go_wp2_with (first | (go_at_call 20; refine (mayBe_any _ _).mono ?_; rintro e w' ⟨rfl, rfl⟩) | (go_at_call 21; refine (nextTo_any _ _ _ (by decide) h1 h2).mono ?_; rintro e w' ⟨rfl, hbl⟩))
      go_ret3
      exact ⟨by rw [HF.out]; rfl, hbl⟩

theorem thou_bound {a : Int} (ha : Um.may a = true) : -1000000000000000000 ≤ a * 1000 ∧ a * 1000 ≤ 1000000000000000000 := by
  have := (Um.may_iff a).1 ha; omega

set_option maxHeartbeats 1000000 in
theorem by_any (a b : Int) (w : World) :
    Calls Tryd.prog 12 #[.int .i64 a, .int .i64 b] w fun e w' => e = .returned (.tuple #[.int .i64 (Um.byR a b).1, .int .i64 (Um.byR a b).2.1, errV (Um.byR a b).2.2]) ∧ Below w.heap.size w w' := by
  cases ha : Um.may a
  · have HF : Hid (Um.byR a b = (0, 0, 1)) := by simp [Hid, Um.byR, ha]
    go_enter Tryd.func12, Tryd.ntmps12
    go_wp2_with (go_at_call 20; refine (mayBe_any _ _).mono ?_; rintro e w' ⟨rfl, rfl⟩)
    go_ret3
    exact ⟨by rw [HF.out]; rfl, Below.refl _ _⟩
  · cases hb : Um.may b
    · have HF : Hid (Um.byR a b = (0, 0, 1)) := by simp [Hid, Um.byR, hb]
      go_enter Tryd.func12, Tryd.ntmps12
      go_wp2_with (go_at_call 20; refine (mayBe_any _ _).mono ?_; rintro e w' ⟨rfl, rfl⟩)
      go_ret3
      exact ⟨by rw [HF.out]; rfl, Below.refl _ _⟩
    · by_cases hz : b = 0
      · subst hz
        have HF : Hid (Um.byR a 0 = (0, 0, 8)) := by simp [Hid, Um.byR, ha, hb]
        go_enter Tryd.func12, Tryd.ntmps12
        go_wp2_with (go_at_call 20; refine (mayBe_any _ _).mono ?_; rintro e w' ⟨rfl, rfl⟩)
        go_ret3
        exact ⟨by rw [HF.out]; rfl, Below.refl _ _⟩
      · have HF : Hid (Um.byR a b = Um.nextR (a * 1000) b) := by simp [Hid, Um.byR, ha, hb, hz]
        have hm := thou_bound ha
        have h1 := hm.1
        have h2 := hm.2
        have hz2 : (b == 0) = false := by simpa using hz
        clear hm
        go_enter Tryd.func12, Tryd.ntmps12
        go_wp2_with (first | (go_at_call 20; refine (mayBe_any _ _).mono ?_; rintro e w' ⟨rfl, rfl⟩) | (go_at_call 21; refine (nextTo_any _ _ _ hz h1 h2).mono ?_; rintro e w' ⟨rfl, hbl⟩))
        go_ret3
        exact ⟨by rw [HF.out]; rfl, hbl⟩
end Go.Proofs.YtbllnkgofalifaaDoor
