/-
  What package power's Of answers, at every argument.
-/
import Derived.Test.YtkfalmdckmlneaaGreatDoorPower
namespace Go.Proofs.YtkfalmdckmlneaaGreatDoor
set_option linter.unusedSimpArgs false
open Go.RowKit

set_option maxHeartbeats 2000000 in
theorem of_even (lo hi n : Int) (k : Nat) (w : World) (hc : Um.chk lo hi = 0) (hk : n = k) (h4 : k ≤ 4) (hp : k % 2 = 0) :
    Calls Tryz.prog 94 #[.agg #[.int .i64 lo, .int .i64 hi], .int .i64 n] w fun e w' => e = .returned (.tuple #[.agg #[.int .i64 (Um.powC lo hi k).1, .int .i64 (Um.powC lo hi k).2.1], errV (Um.powC lo hi k).2.2]) ∧ Below w.heap.size w w' := by
  have q1 := errG
  have q2 := errGn
  have q3 := errE
  have q4 := errN
  have k1 : (Um.chk lo hi != 0) = false := by simpa using hc
  obtain ⟨m1, m2, m3⟩ := Um.chk_ok.1 hc
  have t1 : decide (n < 0) = false := by simp; omega
  have t2 : decide (4 < n) = false := by simp; omega
  have t3 : (n.tmod 2 == 0) = true := by
    have : n = 0 ∨ n = 1 ∨ n = 2 ∨ n = 3 ∨ n = 4 := by omega
    rcases this with rfl | rfl | rfl | rfl | rfl <;> first | rfl | (exfalso; omega)
  have HR : Hid (Um.powC lo hi k = Um.join (Um.lowR (Um.farR lo hi).1 k) (Um.highR (Um.farR lo hi).2 k)) := by unfold Um.powC; rw [if_pos hp]; rfl
  have r := Um.far_right m3
  have m := Um.far_may m1 m2
  have HF := fun w => hid (far_any lo hi w m1 m2 m3)
  have HL := fun w => hid (low_drew (Um.farR lo hi).1 k w (by omega) (by omega) h4)
  have HH := fun w => hid (high_drew (Um.farR lo hi).2 k w (by omega) (by omega) h4)
  rw [← hk] at HL HH
  generalize (Um.farR lo hi).1 = f at *
  generalize (Um.farR lo hi).2 = t at *
  generalize Um.lowR f k = a at *
  generalize Um.highR t k = b at *
  generalize Um.powC lo hi k = R at *
  clear hc m1 m2 m3 hk hp h4
  by_cases ha : a.2 = 0
  · by_cases hb : b.2 = 0
    · have HJ : Hid (R = (a.1, b.1, 0)) := by rw [HR.out]; unfold Um.join; rw [if_pos ha, if_pos hb]; rfl
      have k2 : (a.2 != 0) = false := by simpa using ha
      have k3 : (b.2 != 0) = false := by simpa using hb
      go_enter Tryz.func94, Tryz.ntmps94
      go_wp2_with (first | (go_at_call 112; refine (check_any _ _ _).mono ?_; rintro e w1 ⟨rfl, rfl⟩) | (go_at_call 116; refine (HF _).out.mono ?_; rintro e w1 ⟨rfl, qf, rfl⟩) | (go_at_call 117; refine (HL _).out.mono ?_; rintro e w1 ⟨rfl, ql, rfl⟩) | (go_at_call 118; refine (HH _).out.mono ?_; rintro e w1 ⟨rfl, qh, rfl⟩))
      go_quiet (fail)
      go_wp2_with (first | (go_at_call 112; refine (check_any _ _ _).mono ?_; rintro e w1 ⟨rfl, rfl⟩) | (go_at_call 116; refine (HF _).out.mono ?_; rintro e w1 ⟨rfl, qf, rfl⟩) | (go_at_call 117; refine (HL _).out.mono ?_; rintro e w1 ⟨rfl, ql, rfl⟩) | (go_at_call 118; refine (HH _).out.mono ?_; rintro e w1 ⟨rfl, qh, rfl⟩))
      go_returns
      rw [HJ.out]
      exact ⟨rfl, by repeat' (first | exact Below.refl _ _ | refine below_drewN ?_ _ | refine Below.setCell ?_ (by simp) _ | refine Below.alloc ?_ (by simp <;> omega) _)⟩
    · have HJ : Hid (R = (0, 0, b.2)) := by rw [HR.out]; unfold Um.join; rw [if_pos ha, if_neg hb]; rfl
      have k2 : (a.2 != 0) = false := by simpa using ha
      have k3 : (b.2 != 0) = true := by simpa using hb
      go_enter Tryz.func94, Tryz.ntmps94
      go_wp2_with (first | (go_at_call 112; refine (check_any _ _ _).mono ?_; rintro e w1 ⟨rfl, rfl⟩) | (go_at_call 116; refine (HF _).out.mono ?_; rintro e w1 ⟨rfl, qf, rfl⟩) | (go_at_call 117; refine (HL _).out.mono ?_; rintro e w1 ⟨rfl, ql, rfl⟩) | (go_at_call 118; refine (HH _).out.mono ?_; rintro e w1 ⟨rfl, qh, rfl⟩))
      go_quiet (fail)
      go_wp2_with (first | (go_at_call 112; refine (check_any _ _ _).mono ?_; rintro e w1 ⟨rfl, rfl⟩) | (go_at_call 116; refine (HF _).out.mono ?_; rintro e w1 ⟨rfl, qf, rfl⟩) | (go_at_call 117; refine (HL _).out.mono ?_; rintro e w1 ⟨rfl, ql, rfl⟩) | (go_at_call 118; refine (HH _).out.mono ?_; rintro e w1 ⟨rfl, qh, rfl⟩))
      go_returns
      rw [HJ.out]
      exact ⟨rfl, by repeat' (first | exact Below.refl _ _ | refine below_drewN ?_ _ | refine Below.setCell ?_ (by simp) _ | refine Below.alloc ?_ (by simp <;> omega) _)⟩
  · have HJ : Hid (R = (0, 0, a.2)) := by rw [HR.out]; unfold Um.join; rw [if_neg ha]; rfl
    have k2 : (a.2 != 0) = true := by simpa using ha
    go_enter Tryz.func94, Tryz.ntmps94
    go_wp2_with (first | (go_at_call 112; refine (check_any _ _ _).mono ?_; rintro e w1 ⟨rfl, rfl⟩) | (go_at_call 116; refine (HF _).out.mono ?_; rintro e w1 ⟨rfl, qf, rfl⟩) | (go_at_call 117; refine (HL _).out.mono ?_; rintro e w1 ⟨rfl, ql, rfl⟩) | (go_at_call 118; refine (HH _).out.mono ?_; rintro e w1 ⟨rfl, qh, rfl⟩))
    go_quiet (fail)
    go_wp2_with (first | (go_at_call 112; refine (check_any _ _ _).mono ?_; rintro e w1 ⟨rfl, rfl⟩) | (go_at_call 116; refine (HF _).out.mono ?_; rintro e w1 ⟨rfl, qf, rfl⟩) | (go_at_call 117; refine (HL _).out.mono ?_; rintro e w1 ⟨rfl, ql, rfl⟩) | (go_at_call 118; refine (HH _).out.mono ?_; rintro e w1 ⟨rfl, qh, rfl⟩))
    go_returns
    rw [HJ.out]
    exact ⟨rfl, by repeat' (first | exact Below.refl _ _ | refine below_drewN ?_ _ | refine Below.setCell ?_ (by simp) _ | refine Below.alloc ?_ (by simp <;> omega) _)⟩

set_option maxHeartbeats 2000000 in
theorem of_odd (lo hi n : Int) (k : Nat) (w : World) (hc : Um.chk lo hi = 0) (hk : n = k) (h4 : k ≤ 4) (hp : ¬ k % 2 = 0) :
    Calls Tryz.prog 94 #[.agg #[.int .i64 lo, .int .i64 hi], .int .i64 n] w fun e w' => e = .returned (.tuple #[.agg #[.int .i64 (Um.powC lo hi k).1, .int .i64 (Um.powC lo hi k).2.1], errV (Um.powC lo hi k).2.2]) ∧ Below w.heap.size w w' := by
  have q1 := errG
  have q2 := errGn
  have q3 := errE
  have q4 := errN
  have k1 : (Um.chk lo hi != 0) = false := by simpa using hc
  obtain ⟨m1, m2, m3⟩ := Um.chk_ok.1 hc
  have t1 : decide (n < 0) = false := by simp; omega
  have t2 : decide (4 < n) = false := by simp; omega
  have t3 : (n.tmod 2 == 0) = false := by
    have : n = 0 ∨ n = 1 ∨ n = 2 ∨ n = 3 ∨ n = 4 := by omega
    rcases this with rfl | rfl | rfl | rfl | rfl <;> first | rfl | (exfalso; omega)
  have HR : Hid (Um.powC lo hi k = Um.join (Um.lowR lo k) (Um.highR hi k)) := by unfold Um.powC; rw [if_neg hp]; rfl
  have b1 := (Um.may_iff lo).1 m1
  have b2 := (Um.may_iff hi).1 m2
  have HL := fun w => hid (low_drew lo k w b1.1 b1.2 h4)
  have HH := fun w => hid (high_drew hi k w b2.1 b2.2 h4)
  rw [← hk] at HL HH
  generalize Um.lowR lo k = a at *
  generalize Um.highR hi k = b at *
  generalize Um.powC lo hi k = R at *
  clear hc m1 m2 m3 hk hp h4
  by_cases ha : a.2 = 0
  · by_cases hb : b.2 = 0
    · have HJ : Hid (R = (a.1, b.1, 0)) := by rw [HR.out]; unfold Um.join; rw [if_pos ha, if_pos hb]; rfl
      have k2 : (a.2 != 0) = false := by simpa using ha
      have k3 : (b.2 != 0) = false := by simpa using hb
      go_enter Tryz.func94, Tryz.ntmps94
      go_wp2_with (first | (go_at_call 112; refine (check_any _ _ _).mono ?_; rintro e w1 ⟨rfl, rfl⟩) | (go_at_call 116; refine (HF _).out.mono ?_; rintro e w1 ⟨rfl, qf, rfl⟩) | (go_at_call 117; refine (HL _).out.mono ?_; rintro e w1 ⟨rfl, ql, rfl⟩) | (go_at_call 118; refine (HH _).out.mono ?_; rintro e w1 ⟨rfl, qh, rfl⟩))
      go_quiet (fail)
      go_wp2_with (first | (go_at_call 112; refine (check_any _ _ _).mono ?_; rintro e w1 ⟨rfl, rfl⟩) | (go_at_call 116; refine (HF _).out.mono ?_; rintro e w1 ⟨rfl, qf, rfl⟩) | (go_at_call 117; refine (HL _).out.mono ?_; rintro e w1 ⟨rfl, ql, rfl⟩) | (go_at_call 118; refine (HH _).out.mono ?_; rintro e w1 ⟨rfl, qh, rfl⟩))
      go_returns
      rw [HJ.out]
      exact ⟨rfl, by repeat' (first | exact Below.refl _ _ | refine below_drewN ?_ _ | refine Below.setCell ?_ (by simp) _ | refine Below.alloc ?_ (by simp <;> omega) _)⟩
    · have HJ : Hid (R = (0, 0, b.2)) := by rw [HR.out]; unfold Um.join; rw [if_pos ha, if_neg hb]; rfl
      have k2 : (a.2 != 0) = false := by simpa using ha
      have k3 : (b.2 != 0) = true := by simpa using hb
      go_enter Tryz.func94, Tryz.ntmps94
      go_wp2_with (first | (go_at_call 112; refine (check_any _ _ _).mono ?_; rintro e w1 ⟨rfl, rfl⟩) | (go_at_call 116; refine (HF _).out.mono ?_; rintro e w1 ⟨rfl, qf, rfl⟩) | (go_at_call 117; refine (HL _).out.mono ?_; rintro e w1 ⟨rfl, ql, rfl⟩) | (go_at_call 118; refine (HH _).out.mono ?_; rintro e w1 ⟨rfl, qh, rfl⟩))
      go_quiet (fail)
      go_wp2_with (first | (go_at_call 112; refine (check_any _ _ _).mono ?_; rintro e w1 ⟨rfl, rfl⟩) | (go_at_call 116; refine (HF _).out.mono ?_; rintro e w1 ⟨rfl, qf, rfl⟩) | (go_at_call 117; refine (HL _).out.mono ?_; rintro e w1 ⟨rfl, ql, rfl⟩) | (go_at_call 118; refine (HH _).out.mono ?_; rintro e w1 ⟨rfl, qh, rfl⟩))
      go_returns
      rw [HJ.out]
      exact ⟨rfl, by repeat' (first | exact Below.refl _ _ | refine below_drewN ?_ _ | refine Below.setCell ?_ (by simp) _ | refine Below.alloc ?_ (by simp <;> omega) _)⟩
  · have HJ : Hid (R = (0, 0, a.2)) := by rw [HR.out]; unfold Um.join; rw [if_neg ha]; rfl
    have k2 : (a.2 != 0) = true := by simpa using ha
    go_enter Tryz.func94, Tryz.ntmps94
    go_wp2_with (first | (go_at_call 112; refine (check_any _ _ _).mono ?_; rintro e w1 ⟨rfl, rfl⟩) | (go_at_call 116; refine (HF _).out.mono ?_; rintro e w1 ⟨rfl, qf, rfl⟩) | (go_at_call 117; refine (HL _).out.mono ?_; rintro e w1 ⟨rfl, ql, rfl⟩) | (go_at_call 118; refine (HH _).out.mono ?_; rintro e w1 ⟨rfl, qh, rfl⟩))
    go_quiet (fail)
    go_wp2_with (first | (go_at_call 112; refine (check_any _ _ _).mono ?_; rintro e w1 ⟨rfl, rfl⟩) | (go_at_call 116; refine (HF _).out.mono ?_; rintro e w1 ⟨rfl, qf, rfl⟩) | (go_at_call 117; refine (HL _).out.mono ?_; rintro e w1 ⟨rfl, ql, rfl⟩) | (go_at_call 118; refine (HH _).out.mono ?_; rintro e w1 ⟨rfl, qh, rfl⟩))
    go_returns
    rw [HJ.out]
    exact ⟨rfl, by repeat' (first | exact Below.refl _ _ | refine below_drewN ?_ _ | refine Below.setCell ?_ (by simp) _ | refine Below.alloc ?_ (by simp <;> omega) _)⟩

set_option maxHeartbeats 1000000 in
theorem of_any (lo hi n : Int) (w : World) :
    Calls Tryz.prog 94 #[.agg #[.int .i64 lo, .int .i64 hi], .int .i64 n] w fun e w' => e = .returned (.tuple #[.agg #[.int .i64 (Um.ofR lo hi n).1, .int .i64 (Um.ofR lo hi n).2.1], errV (Um.ofR lo hi n).2.2]) ∧ Below w.heap.size w w' := by
  have q1 := errG
  have q2 := errGn
  have q3 := errE
  have q4 := errN
  by_cases hc : Um.chk lo hi = 0
  · by_cases hn : n < 0 ∨ 4 < n
    · have HR : Hid (Um.ofR lo hi n = (0, 0, 1)) := by unfold Um.ofR; rw [if_pos hc, if_pos hn]; rfl
      have k1 : (Um.chk lo hi != 0) = false := by simpa using hc
      clear hc
      generalize Um.ofR lo hi n = R at *
      by_cases h1 : n < 0
      · have t1 : decide (n < 0) = true := by simpa using h1
        clear hn
        go_enter Tryz.func94, Tryz.ntmps94
        go_wp2_with (go_at_call 112; refine (check_any _ _ _).mono ?_; rintro e w1 ⟨rfl, rfl⟩)
        go_returns
        rw [HR.out]
        exact ⟨rfl, by go_grown⟩
      · have t1 : decide (n < 0) = false := by simpa using h1
        have t2 : decide (4 < n) = true := by simp; omega
        clear hn
        go_enter Tryz.func94, Tryz.ntmps94
        go_wp2_with (go_at_call 112; refine (check_any _ _ _).mono ?_; rintro e w1 ⟨rfl, rfl⟩)
        go_returns
        rw [HR.out]
        exact ⟨rfl, by go_grown⟩
    · have hk : n = ((n.toNat : Nat) : Int) := by omega
      obtain ⟨m1, m2, m3⟩ := Um.chk_ok.1 hc
      have e : Um.ofR lo hi n = Um.powC lo hi n.toNat := by unfold Um.ofR; rw [if_pos hc, if_neg hn, Um.pow_code _ m1 m2 m3]
      rw [e]
      by_cases hp : n.toNat % 2 = 0
      · exact of_even lo hi n n.toNat w hc hk (by omega) hp
      · exact of_odd lo hi n n.toNat w hc hk (by omega) hp
  · have HR : Hid (Um.ofR lo hi n = (0, 0, Um.chk lo hi)) := by unfold Um.ofR; rw [if_neg hc]; rfl
    have k1 : (Um.chk lo hi != 0) = true := by simpa using hc
    generalize Um.ofR lo hi n = R at *
    clear hc
    go_enter Tryz.func94, Tryz.ntmps94
    go_wp2_with (go_at_call 112; refine (check_any _ _ _).mono ?_; rintro e w1 ⟨rfl, rfl⟩)
    go_returns
    rw [HR.out]
    exact ⟨rfl, by go_grown⟩
end Go.Proofs.YtkfalmdckmlneaaGreatDoor
