/-
  What the functions of package unit that multiply answer: around, nextTo, Times, at every argument.
  What unit.By answers, at every argument.
  What is carried along a law's walk.
-/
import Derived.Test.YtkfalmdckmlneaaGreatDoorBase
import Derived.Test.YtkfalmdckmlneaaGreatDoorAs
namespace Go.Proofs.YtkfalmdckmlneaaGreatDoor
set_option linter.unusedSimpArgs false
open Go.RowKit

set_option maxHeartbeats 1000000 in
theorem around_drew (n d : Int) (w : World) (hd : ¬ d = 0) (h1 : -1000000000000000000 ≤ n) (h2 : n ≤ 1000000000000000000) :
    Calls Tryz.prog 138 #[.int .i64 n, .int .i64 d] w fun e w' => e = .returned (.tuple #[.int .i64 (Um.fl n d), .int .i64 (Um.ce n d)]) ∧ ∃ q, w' = w.drewN q := by
  have hb := Um.tdiv_le n d 1000000000000000000 h1 h2
  go_enter Tryz.func138, Tryz.ntmps138
  go_wp2
  go_quiet (fail)
  go_wp2
  · go_ret2
    obtain ⟨a, b⟩ := Um.way_zero hd ‹_›
    exact ⟨ret2i (by rw [a]; try exact w64 (by omega) (by omega)) (by rw [b]; try exact w64 (by omega) (by omega)), ⟨_, rfl⟩⟩
  · go_ret2
    obtain ⟨a, b⟩ := Um.way_down hd ‹_› ‹_›
    exact ⟨ret2i (by rw [a]; try rw [w64 (by omega) (by omega)]) (by rw [b]; try exact w64 (by omega) (by omega)), ⟨_, rfl⟩⟩
  · go_ret2
    obtain ⟨a, b⟩ := Um.way_up hd ‹_› ‹_›
    exact ⟨ret2i (by rw [a]; try exact w64 (by omega) (by omega)) (by rw [b]; try rw [w64 (by omega) (by omega)]), ⟨_, rfl⟩⟩

set_option maxHeartbeats 1000000 in
theorem nextTo_drew (n d : Int) (w : World) (hd : ¬ d = 0) (h1 : -1000000000000000000 ≤ n) (h2 : n ≤ 1000000000000000000) :
    Calls Tryz.prog 115 #[.int .i64 n, .int .i64 d] w fun e w' => e = .returned (.tuple #[.int .i64 (Um.nextR n d).1, .int .i64 (Um.nextR n d).2.1, errV (Um.nextR n d).2.2]) ∧ ∃ q, w' = w.drewN q := by
  have H := around_drew n d w hd h1 h2
  have HR : Hid (Um.nextR n d = if Um.may (Um.fl n d) = true ∧ Um.may (Um.ce n d) = true then (Um.fl n d, Um.ce n d, 0) else (0, 0, 4)) := rfl
  generalize Um.fl n d = lo at *
  generalize Um.ce n d = hi at *
  have HH := hid H
  clear H
  cases hl : Um.may lo
  · have HF : Hid (Um.nextR n d = (0, 0, 4)) := hid (by have := HR.out; rw [hl] at this; simpa using this)
    clear HR
    go_enter Tryz.func115, Tryz.ntmps115
    go_wp2_with (first | (go_at_call 138; refine HH.out.mono ?_; rintro e w1 ⟨rfl, hb⟩) | (go_at_call 114; refine (mayBe_any _ _).mono ?_; rintro e w' ⟨rfl, rfl⟩))
    go_ret3
    exact ⟨by rw [HF.out]; rfl, hb⟩
  · cases hh : Um.may hi
    · have HF : Hid (Um.nextR n d = (0, 0, 4)) := hid (by have := HR.out; rw [hh] at this; simpa using this)
      clear HR
      go_enter Tryz.func115, Tryz.ntmps115
      go_wp2_with (first | (go_at_call 138; refine HH.out.mono ?_; rintro e w1 ⟨rfl, hb⟩) | (go_at_call 114; refine (mayBe_any _ _).mono ?_; rintro e w' ⟨rfl, rfl⟩))
      go_ret3
      exact ⟨by rw [HF.out]; rfl, hb⟩
    · have HF : Hid (Um.nextR n d = (lo, hi, 0)) := hid (by have := HR.out; rw [hl, hh] at this; simpa using this)
      clear HR
      go_enter Tryz.func115, Tryz.ntmps115
      go_wp2_with (first | (go_at_call 138; refine HH.out.mono ?_; rintro e w1 ⟨rfl, hb⟩) | (go_at_call 114; refine (mayBe_any _ _).mono ?_; rintro e w' ⟨rfl, rfl⟩))
      go_ret3
      exact ⟨by rw [HF.out]; rfl, hb⟩

theorem res3_cases (n d : Int) : (Um.nextR n d).2.2 = 0 ∨ (Um.nextR n d).2.2 = 4 := by unfold Um.nextR; split <;> simp

set_option maxHeartbeats 1000000 in
theorem times_drew (a b : Int) (w : World) :
    Calls Tryz.prog 87 #[.int .i64 a, .int .i64 b] w fun e w' => e = .returned (.tuple #[.int .i64 (Um.timesR a b).1, .int .i64 (Um.timesR a b).2.1, errV (Um.timesR a b).2.2]) ∧ ∃ q, w' = w.drewN q := by
  cases ha : Um.may a
  · have HF : Hid (Um.timesR a b = (0, 0, 1)) := by simp [Hid, Um.timesR, ha]
    go_enter Tryz.func87, Tryz.ntmps87
    go_wp2_with (go_at_call 114; refine (mayBe_any _ _).mono ?_; rintro e w' ⟨rfl, rfl⟩)
    go_ret3
    exact ⟨by rw [HF.out]; rfl, ⟨0, rfl⟩⟩
  · cases hb : Um.may b
    · have HF : Hid (Um.timesR a b = (0, 0, 1)) := by simp [Hid, Um.timesR, hb]
      go_enter Tryz.func87, Tryz.ntmps87
      go_wp2_with (go_at_call 114; refine (mayBe_any _ _).mono ?_; rintro e w' ⟨rfl, rfl⟩)
      go_ret3
      exact ⟨by rw [HF.out]; rfl, ⟨0, rfl⟩⟩
    · have HF : Hid (Um.timesR a b = Um.nextR (a * b) 1000) := by simp [Hid, Um.timesR, ha, hb]
      have hm := Um.mul_bound ha hb
      have h1 := hm.1
      have h2 := hm.2
      clear hm
      generalize hn : a * b = n at *
      go_enter Tryz.func87, Tryz.ntmps87
      go_wp2_with (first | (go_at_call 114; refine (mayBe_any _ _).mono ?_; rintro e w' ⟨rfl, rfl⟩) | (go_at_call 115; refine (nextTo_drew _ _ _ (by decide) h1 h2).mono ?_; rintro e w' ⟨rfl, hbl⟩))
      go_ret3
      exact ⟨by rw [HF.out]; rfl, hbl⟩

theorem times_any (a b : Int) (w : World) :
    Calls Tryz.prog 87 #[.int .i64 a, .int .i64 b] w fun e w' => e = .returned (.tuple #[.int .i64 (Um.timesR a b).1, .int .i64 (Um.timesR a b).2.1, errV (Um.timesR a b).2.2]) ∧ Below w.heap.size w w' :=
  (times_drew a b w).mono fun _ _ ⟨he, q, hq⟩ => ⟨he, by rw [hq]; exact below_drewN (Below.refl _ _) _⟩
end Go.Proofs.YtkfalmdckmlneaaGreatDoor
namespace Go.Proofs.YtkfalmdckmlneaaGreatDoor
set_option linter.unusedSimpArgs false
open Go.RowKit

theorem thou_bound {a : Int} (ha : Um.may a = true) : -1000000000000000000 ≤ a * 1000 ∧ a * 1000 ≤ 1000000000000000000 := by
  have := (Um.may_iff a).1 ha; omega

set_option maxHeartbeats 1000000 in
theorem by_drew (a b : Int) (w : World) :
    Calls Tryz.prog 90 #[.int .i64 a, .int .i64 b] w fun e w' => e = .returned (.tuple #[.int .i64 (Um.byR a b).1, .int .i64 (Um.byR a b).2.1, errV (Um.byR a b).2.2]) ∧ ∃ q, w' = w.drewN q := by
  cases ha : Um.may a
  · have HF : Hid (Um.byR a b = (0, 0, 1)) := by simp [Hid, Um.byR, ha]
    go_enter Tryz.func90, Tryz.ntmps90
    go_wp2_with (go_at_call 114; refine (mayBe_any _ _).mono ?_; rintro e w' ⟨rfl, rfl⟩)
    go_ret3
    exact ⟨by rw [HF.out]; rfl, ⟨0, rfl⟩⟩
  · cases hb : Um.may b
    · have HF : Hid (Um.byR a b = (0, 0, 1)) := by simp [Hid, Um.byR, hb]
      go_enter Tryz.func90, Tryz.ntmps90
      go_wp2_with (go_at_call 114; refine (mayBe_any _ _).mono ?_; rintro e w' ⟨rfl, rfl⟩)
      go_ret3
      exact ⟨by rw [HF.out]; rfl, ⟨0, rfl⟩⟩
    · by_cases hz : b = 0
      · subst hz
        have HF : Hid (Um.byR a 0 = (0, 0, 8)) := by simp [Hid, Um.byR, ha, hb]
        go_enter Tryz.func90, Tryz.ntmps90
        go_wp2_with (go_at_call 114; refine (mayBe_any _ _).mono ?_; rintro e w' ⟨rfl, rfl⟩)
        go_ret3
        exact ⟨by rw [HF.out]; rfl, ⟨0, rfl⟩⟩
      · have HF : Hid (Um.byR a b = Um.nextR (a * 1000) b) := by simp [Hid, Um.byR, ha, hb, hz]
        have hm := thou_bound ha
        have h1 := hm.1
        have h2 := hm.2
        have hz2 : (b == 0) = false := by simpa using hz
        clear hm
        go_enter Tryz.func90, Tryz.ntmps90
        go_wp2_with (first | (go_at_call 114; refine (mayBe_any _ _).mono ?_; rintro e w' ⟨rfl, rfl⟩) | (go_at_call 115; refine (nextTo_drew _ _ _ hz h1 h2).mono ?_; rintro e w' ⟨rfl, hbl⟩))
        go_ret3
        exact ⟨by rw [HF.out]; rfl, hbl⟩

theorem by_any (a b : Int) (w : World) :
    Calls Tryz.prog 90 #[.int .i64 a, .int .i64 b] w fun e w' => e = .returned (.tuple #[.int .i64 (Um.byR a b).1, .int .i64 (Um.byR a b).2.1, errV (Um.byR a b).2.2]) ∧ Below w.heap.size w w' :=
  (by_drew a b w).mono fun _ _ ⟨he, q, hq⟩ => ⟨he, by rw [hq]; exact below_drewN (Below.refl _ _) _⟩
end Go.Proofs.YtkfalmdckmlneaaGreatDoor
namespace Go.Proofs.YtkfalmdckmlneaaGreatDoor
set_option linter.unusedSimpArgs false
open Go.RowKit

/-- What is carried along a law's walk: of what was there when it began nothing has turned; errors.errorType is as laid. -/
structure Inv (w0 w : World) : Prop where
  below : Below w0.heap.size w0 w
  err : HasErr w
theorem Inv.start {w : World} (h : HasErr w) : Inv w w := ⟨Below.refl _ _, h⟩
theorem Inv.step {w0 w w' : World} (h : Inv w0 w) (k : Below w.heap.size w w') : Inv w0 w' := ⟨h.below.trans (k.mono h.below.size), h.err.below k h.err.size⟩
end Go.Proofs.YtkfalmdckmlneaaGreatDoor
