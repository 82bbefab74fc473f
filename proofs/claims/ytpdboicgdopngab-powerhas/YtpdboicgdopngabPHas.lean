/-
  The walk over 'spanlaw1.PowerHas': for all a, x, n it returns true.
-/
import Derived.Test.YtpdboicgdopngabPowerOf
import Derived.Test.YtpdboicgdopngabRef
import Derived.Test.YtpdboicgdopngabMem
import Derived.Deep.DeepCutAuto
namespace Go.Proofs.Ytpdboicgdopngab.PHas
set_option linter.unusedSimpArgs false
open Go.RowKit

/-- What is carried along the law: the span in its block; nothing that was there has turned. -/
structure Ph (w wr : World) (lo hi : Int) : Prop where
  below : Below w.heap.size w wr
  a : Sp wr w.heap.size lo hi
theorem Ph.step {w wr w' : World} {lo hi : Int} (h : Ph w wr lo hi) (hb : Below wr.heap.size wr w') : Ph w w' lo hi :=
  ⟨h.below.trans (hb.mono h.below.size), h.a.step hb⟩
theorem Ph.alloc {w wr : World} {lo hi : Int} (h : Ph w wr lo hi) (o : Obj) : Ph w (wr.alloc o) lo hi :=
  h.step ((Below.refl _ _).alloc (Nat.le_refl _) o)
theorem Ph.start (w : World) (lo hi : Int) : Ph w (w.alloc (.cells #[.int .i64 lo, .int .i64 hi] 23)) lo hi :=
  ⟨by go_grown, Sp.new w lo hi⟩

theorem fact : Um.ofR (-2000) 1000 2 = (0, 4000, 0) := by decide +kernel
theorem of_fact (w : World) : Calls Try.prog 11 #[.agg #[.int .i64 (-2000), .int .i64 1000], .int .i64 2] w fun e w' => e = .returned (.tuple #[.agg #[.int .i64 0, .int .i64 4000], .nilIface]) ∧ Below w.heap.size w w' := by
  have h := of_any (-2000) 1000 2 w
  rw [fact] at h
  exact h
theorem rFar0_any (n : Int) (w : World) (h1 : -1000000000 ≤ n) (h2 : n ≤ 1000000000) :
    Calls Try.prog 14 #[.int .i64 n] w fun e w' => e = .returned (.int .i64 (Um.ab n)) ∧ w' = w := by
  by_cases h : n < 0
  · have HR : Hid (Um.ab n = -n) := by unfold Um.ab; rw [if_pos h]; rfl
    have h' : decide (n < 0) = true := by simpa using h
    go_enter Try.func14, Try.ntmps14
    go_wp2
    go_returns
    rw [HR.out]
    exact ⟨rfl, rfl⟩
  · have HR : Hid (Um.ab n = n) := by unfold Um.ab; rw [if_neg h]; rfl
    have h' : decide (n < 0) = false := by simpa using h
    go_enter Try.func14, Try.ntmps14
    go_wp2
    go_returns
    rw [HR.out]
    exact ⟨rfl, rfl⟩
theorem sq_bound {x : Int} (h1 : -1000000 ≤ x) (h2 : x ≤ 1000000) : 0 ≤ x * x ∧ x * x ≤ 1000000000000 := by
  have h : (x * x).natAbs = x.natAbs * x.natAbs := Int.natAbs_mul x x
  have h3 : x.natAbs * x.natAbs ≤ 1000000 * 1000000 := Nat.mul_le_mul (by omega) (by omega)
  have h4 : 0 ≤ x * x := by rw [← Um.ab_sq]; exact Int.mul_nonneg (Um.ab_nonneg x) (Um.ab_nonneg x)
  omega
theorem cube_bound {x : Int} (h1 : -1000000 ≤ x) (h2 : x ≤ 1000000) : -1000000000000000000 ≤ x * x * x ∧ x * x * x ≤ 1000000000000000000 := by
  have h : (x * x * x).natAbs = (x * x).natAbs * x.natAbs := Int.natAbs_mul (x * x) x
  have hs := sq_bound h1 h2
  have h3 : (x * x).natAbs * x.natAbs ≤ 1000000000000 * 1000000 := Nat.mul_le_mul (by omega) (by omega)
  omega
theorem of_even_is {lo hi n : Int} (h : Um.chk lo hi = 0) (pe : n.tmod 2 = 0) (p0 : (Um.ofR lo hi n).2.2 = 0) : 0 ≤ (Um.ofR lo hi n).1 := by
  obtain ⟨_, _, m3⟩ := Um.chk_ok.1 h
  unfold Um.ofR at p0 ⊢
  rw [if_pos h] at p0 ⊢
  by_cases hn : n < 0 ∨ 4 < n
  · rw [if_pos hn] at p0; exact absurd p0 (by decide)
  · rw [if_neg hn] at p0 ⊢
    have hk : n.toNat % 2 = 0 := by
      have : n = 0 ∨ n = 1 ∨ n = 2 ∨ n = 3 ∨ n = 4 := by omega
      rcases this with rfl | rfl | rfl | rfl | rfl <;> first | rfl | (exfalso; revert pe; decide)
    exact Um.pow_even m3 hk p0
theorem of_two {lo hi : Int} (h : Um.chk lo hi = 0) : Um.ofR lo hi 2 = Um.powR lo hi 2 := by unfold Um.ofR; rw [if_pos h, if_neg (by decide)]; rfl
theorem of_three {lo hi : Int} (h : Um.chk lo hi = 0) : Um.ofR lo hi 3 = Um.powR lo hi 3 := by unfold Um.ofR; rw [if_pos h, if_neg (by decide)]; rfl
theorem wrapIn {x : Int} (h1 : -9223372036854775808 ≤ x) (h2 : x ≤ 9223372036854775807) : IntKind.i64.wrap x = x := by rw [IntKind.wrap_i64]; omega
theorem vb {a b : Bool} (h : a = b) : Value.bool a = Value.bool b := by rw [h]

set_option maxRecDepth 100000 in
set_option maxHeartbeats 2000000 in
theorem walk_wrong (lo hi x n : Int) (w : World) (h : ¬ Um.chk lo hi = 0) :
    Calls Try.prog 4 #[.agg #[.int .i64 lo, .int .i64 hi], .int .i64 x, .int .i64 n] w fun e w' => e = .returned (.bool true) ∧ Below w.heap.size w w' := by
  have e1 : midAll lo hi = (0, Um.chk lo hi) := by unfold midAll; rw [if_neg h]
  have e2 : farAll lo hi = (0, 0, Um.chk lo hi) := by unfold farAll; rw [if_neg h]
  have k1 : (Um.chk lo hi != 0) = true := by simpa using h
  have q1 := errG
  have q2 := errGn
  have q3 := errE
  have q4 := errN
  have hS := Ph.start w lo hi
  clear h
  go_enter Try.func4, Try.ntmps4
  go_upto_region 2 with (go_at_call 11; refine (of_fact _).mono ?_; rintro e w1 ⟨rfl, hb⟩; replace hS := hS.step hb; clear hb; have z1 := (hS.alloc (.cells #[.int .i64 0, .int .i64 4000] 23)).a.lo; have z2 := (hS.alloc (.cells #[.int .i64 0, .int .i64 4000] 23)).a.hi; replace hS := hS.alloc (.cells #[.int .i64 0, .int .i64 4000] 23))
  go_wp2_with (first | (go_at_call 12; refine (midAll_any _ _ _).mono ?_; rintro e w2 ⟨rfl, hb⟩; replace hS := hS.step hb; clear hb z1 z2; have z1 := hS.a.lo; have z2 := hS.a.hi) | (go_at_call 13; refine (farAll_any _ _ _).mono ?_; rintro e w3 ⟨rfl, hb⟩; replace hS := hS.step hb; clear hb z1 z2; have z1 := hS.a.lo; have z2 := hS.a.hi))
  go_returns
  exact ⟨rfl, hS.below⟩
set_option maxRecDepth 100000 in
set_option maxHeartbeats 4000000 in
theorem walk_right (lo hi x n : Int) (w : World) (h : Um.chk lo hi = 0) :
    Calls Try.prog 4 #[.agg #[.int .i64 lo, .int .i64 hi], .int .i64 x, .int .i64 n] w fun e w' => e = .returned (.bool true) ∧ Below w.heap.size w w' := by
  have e1 : midAll lo hi = (Um.midR lo hi, 0) := by unfold midAll; rw [if_pos h]
  have e2 : farAll lo hi = ((Um.farR lo hi).1, (Um.farR lo hi).2, 0) := by unfold farAll; rw [if_pos h]
  obtain ⟨m1, m2, m3⟩ := Um.chk_ok.1 h
  have hm := Um.mid_has m3
  have hr := Um.far_right m3
  have hy := Um.far_may m1 m2
  have HF := hid (fun x h1 h2 => Um.far_has (lo := lo) (hi := hi) (x := x) h1 h2)
  obtain ⟨b1, b2⟩ := (Um.may_iff lo).1 m1
  obtain ⟨b3, b4⟩ := (Um.may_iff hi).1 m2
  generalize Um.midR lo hi = m at *
  generalize (Um.farR lo hi).1 = f at *
  generalize (Um.farR lo hi).2 = g at *
  obtain ⟨c1, c2, c3, c4⟩ := hm
  obtain ⟨d1, d2⟩ := hr
  have t1 : decide (m < lo) = false := by simp; omega
  have t2 : decide (hi < m) = false := by simp; omega
  have t3 : decide (1 < hi - m - (m - lo)) = false := by simp; omega
  have t4 : decide (hi - m < m - lo) = false := by simp; omega
  have t5 : decide (f < 0) = false := by simp; omega
  have t6 : decide (g < f) = false := by simp; omega
  have v0 := errV_none
  have q1 := errG
  have q2 := errGn
  have q3 := errE
  have q4 := errN
  have hS := Ph.start w lo hi
  have H := hid h
  clear h
  go_enter Try.func4, Try.ntmps4
  go_upto_region 2 with (go_at_call 11; refine (of_fact _).mono ?_; rintro e w1 ⟨rfl, hb⟩; replace hS := hS.step hb; clear hb; have z1 := (hS.alloc (.cells #[.int .i64 0, .int .i64 4000] 23)).a.lo; have z2 := (hS.alloc (.cells #[.int .i64 0, .int .i64 4000] 23)).a.hi; replace hS := hS.alloc (.cells #[.int .i64 0, .int .i64 4000] 23))
  go_upto_region 10 with (first | (go_at_call 12; refine (midAll_any _ _ _).mono ?_; rintro e w2 ⟨rfl, hb⟩; replace hS := hS.step hb; clear hb z1 z2; have z1 := hS.a.lo; have z2 := hS.a.hi) | (go_at_call 13; refine (farAll_any _ _ _).mono ?_; rintro e w3 ⟨rfl, hb⟩; replace hS := hS.step hb; clear hb z1 z2; have z1 := hS.a.lo; have z2 := hS.a.hi))
  clear t1 t2 t3 t4 t5 t6 e1 e2
  go_upto_region 11 with (go_at_call 11; refine (of_any _ _ _ _).mono ?_; rintro e w4 ⟨rfl, hb⟩; replace hS := hS.step hb; clear hb z1 z2; have z1 := (hS.alloc (.cells #[.int .i64 (Um.ofR lo hi n).1, .int .i64 (Um.ofR lo hi n).2.1] 23)).a.lo; have z2 := (hS.alloc (.cells #[.int .i64 (Um.ofR lo hi n).1, .int .i64 (Um.ofR lo hi n).2.1] 23)).a.hi; replace hS := hS.alloc (.cells #[.int .i64 (Um.ofR lo hi n).1, .int .i64 (Um.ofR lo hi n).2.1] 23))
  go_cut [117] from 106 to 116 (fun v wr => v = .bool false ∧ Ph w wr lo hi)
  case first =>
    have HE := hid (fun a b => of_even_is (n := n) H.out a b)
    generalize (Um.ofR lo hi n) = P at *
    clear HF
    by_cases p0 : P.2.2 = 0
    · have k1 : (P.2.2 == 0) = true := by simpa using p0
      by_cases pe : n.tmod 2 = 0
      · have k2 : (n.tmod 2 == 0) = true := by simpa using pe
        have k3 : decide (P.1 < 0) = false := by have := HE.out pe p0; simp; omega
        clear pe p0
        go_wp2
        go_meet
        case rel => exact ⟨rfl, hS⟩
      · have k2 : (n.tmod 2 == 0) = false := by simpa using pe
        clear pe p0
        go_wp2
        go_meet
        case rel => exact ⟨rfl, hS⟩
    · have k1 : (P.2.2 == 0) = false := by simpa using p0
      clear p0
      go_wp2
      go_meet
      case rel => exact ⟨rfl, hS⟩
  case rest =>
    clear hS z1 z2
    obtain ⟨rfl, hS⟩ := hcut
    have z1 := hS.a.lo
    have z2 := hS.a.hi
    go_upto_region 13 with fail
    by_cases i1 : x < lo
    · have o1 : decide (x < lo) = true := by simpa using i1
      go_wp2
      go_returns
      exact ⟨rfl, hS.below⟩
    have o1 : decide (x < lo) = false := by simpa using i1
    by_cases i2 : hi < x
    · have o2 : decide (hi < x) = true := by simpa using i2
      go_wp2
      go_returns
      exact ⟨rfl, hS.below⟩
    have o2 : decide (hi < x) = false := by simpa using i2
    by_cases i3 : x < -1000000
    · have o3 : decide (x < -1000000) = true := by simpa using i3
      go_wp2
      go_returns
      exact ⟨rfl, hS.below⟩
    have o3 : decide (x < -1000000) = false := by simpa using i3
    by_cases i4 : 1000000 < x
    · have o4 : decide (1000000 < x) = true := by simpa using i4
      go_wp2
      go_returns
      exact ⟨rfl, hS.below⟩
    have o4 : decide (1000000 < x) = false := by simpa using i4
    have hx := HF.out x (by omega) (by omega)
    have u1 : decide (Um.ab x < f) = false := by simp; omega
    have u2 : decide (g < Um.ab x) = false := by simp; omega
    have F0 := fun w => hid (rFar0_any x w (by omega) (by omega))
    have hs := sq_bound (x := x) (by omega) (by omega)
    have hc := cube_bound (x := x) (by omega) (by omega)
    have T2 := hid (Um.pow_two (lo := lo) (hi := hi) (x := x) m1 m2 (by omega) (by omega))
    have T3 := hid (Um.pow_three (lo := lo) (hi := hi) (x := x) m1 m2 (by omega) (by omega))
    rw [← of_two H.out] at T2
    rw [← of_three H.out] at T3
    go_upto_region 18 with (go_at_call 14; refine (F0 _).out.mono ?_; rintro e w5 ⟨rfl, rfl⟩)
    clear u1 u2 o1 o2 o3 o4 hx F0 HF
    go_upto_region 19 with (go_at_call 11; refine (of_any _ _ _ _).mono ?_; rintro e w4 ⟨rfl, hb⟩; replace hS := hS.step hb; clear hb z1 z2; have z1 := (hS.alloc (.cells #[.int .i64 (Um.ofR lo hi 2).1, .int .i64 (Um.ofR lo hi 2).2.1] 23)).a.lo; have z2 := (hS.alloc (.cells #[.int .i64 (Um.ofR lo hi 2).1, .int .i64 (Um.ofR lo hi 2).2.1] 23)).a.hi; replace hS := hS.alloc (.cells #[.int .i64 (Um.ofR lo hi 2).1, .int .i64 (Um.ofR lo hi 2).2.1] 23))
    go_cut [170] from 151 to 169 (fun v wr => v = .bool false ∧ Ph w wr lo hi)
    case first =>
      generalize (Um.ofR lo hi 2) = S at *
      clear T3
      by_cases p0 : S.2.2 = 0
      · have k1 : (S.2.2 == 0) = true := by simpa using p0
        obtain ⟨s1, s2, s3, s4⟩ := T2.out p0
        obtain ⟨s5, s6⟩ := (Um.may_iff S.1).1 s1
        obtain ⟨s7, s8⟩ := (Um.may_iff S.2.1).1 s2
        clear T2 p0
        go_wp2
        go_meet
        case rel => exact ⟨vb (by rw [decide_eq_false (by omega), decide_eq_false (by omega)]; rfl), hS⟩
      · have k1 : (S.2.2 == 0) = false := by simpa using p0
        clear p0
        go_wp2
        go_meet
        case rel => exact ⟨rfl, hS⟩
    case rest =>
      clear hS z1 z2 T2
      obtain ⟨rfl, hS⟩ := hcut
      have z1 := hS.a.lo
      have z2 := hS.a.hi
      go_upto_region 22 with (go_at_call 11; refine (of_any _ _ _ _).mono ?_; rintro e w4 ⟨rfl, hb⟩; replace hS := hS.step hb; clear hb z1 z2; have z1 := (hS.alloc (.cells #[.int .i64 (Um.ofR lo hi 3).1, .int .i64 (Um.ofR lo hi 3).2.1] 23)).a.lo; have z2 := (hS.alloc (.cells #[.int .i64 (Um.ofR lo hi 3).1, .int .i64 (Um.ofR lo hi 3).2.1] 23)).a.hi; replace hS := hS.alloc (.cells #[.int .i64 (Um.ofR lo hi 3).1, .int .i64 (Um.ofR lo hi 3).2.1] 23))
      generalize (Um.ofR lo hi 3) = C at *
      by_cases p0 : C.2.2 = 0
      · have k1 : (C.2.2 != 0) = false := by simpa using p0
        obtain ⟨s1, s2⟩ := T3.out p0
        have g1 := wrapIn (x := x * x) (by omega) (by omega)
        have g2 := wrapIn (x := x * x * x) (by omega) (by omega)
        have HFl := fun w => hid (rFloor_any (x * x * x) 1000000 w (by decide) (by omega) (by omega))
        have HCe := fun w => hid (rCeil_any (x * x * x) 1000000 w (by decide) (by omega) (by omega))
        have j1 : decide (C.1 ≤ Um.fl (x * x * x) 1000000) = true := by simpa using s1
        have j2 : decide (Um.ce (x * x * x) 1000000 ≤ C.2.1) = true := by simpa using s2
        clear p0 T3
        go_quiet (first | (go_at_call 15; exact Calls.quiet_of_same (HFl _).out) | (go_at_call 16; exact Calls.quiet_of_same (HCe _).out))
        go_wp2
        go_returns
        exact ⟨rfl, below_drewN hS.below _⟩
      · have k1 : (C.2.2 != 0) = true := by simpa using p0
        clear p0 T3
        go_quiet (fail)
        go_wp2
        go_returns
        exact ⟨rfl, below_drewN hS.below _⟩

theorem walk (lo hi x n : Int) (w : World) :
    Calls Try.prog 4 #[.agg #[.int .i64 lo, .int .i64 hi], .int .i64 x, .int .i64 n] w fun e w' => e = .returned (.bool true) ∧ Below w.heap.size w w' := by
  by_cases h : Um.chk lo hi = 0
  · exact walk_right lo hi x n w h
  · exact walk_wrong lo hi x n w h
end Go.Proofs.Ytpdboicgdopngab.PHas
