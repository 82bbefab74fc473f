/-
  The walk over 'spanlaw4.NarrowPoint': for all a, b, z it returns true.
-/
import Derived.Test.YtomkekapgcpihaaNarrow
import Derived.Test.YtomkekapgcpihaaMems
import Derived.Deep.CutRange
namespace Go.Proofs.Ytomkekapgcpihaa.NwPoint
set_option linter.unusedSimpArgs false
open Go.RowKit

set_option maxRecDepth 100000 in
set_option maxHeartbeats 16000000 in
theorem walk_told (a b lo hi : Int) (w : World) (h : (Um.nsumAll a a b b lo hi).2.2.2 = 0) :
    Calls Try.prog 3 #[.int .i64 a, .int .i64 b, .agg #[.int .i64 lo, .int .i64 hi]] w fun e w' => e = .returned (.bool true) ∧ Below w.heap.size w w' := by
  have v0 := errV_none
  have q1 := errG
  have q2 := errGn
  have q3 := errE
  have q4 := errN
  have hF := (Fr.start w).push lo hi rfl
  have x0l := (hF.at 0 rfl).lo
  have x0h := (hF.at 0 rfl).hi
  have HSM := fun w => hid (nwSum_any a a b b lo hi w)
  have HCK := fun w => hid (check_any lo hi w)
  obtain ⟨e, ma, mb⟩ := Um.point_told h
  obtain ⟨m1, m2⟩ := (Um.may_iff _).1 ma
  obtain ⟨m3, m4⟩ := (Um.may_iff _).1 mb
  rw [e] at HSM
  clear h e ma mb HCK
  go_enter Try.func3, Try.ntmps3
  go_upto_region 4 with (go_at_call 4; refine (HSM _).out.mono ?_; rintro e wn ⟨rfl, hb⟩; replace hF := hF.step hb; clear hb; clear HSM; replace hF := ((hF.push (b := wn.heap.size) a a rfl).push (b := wn.heap.size + 1) b b (by simp)).push (b := wn.heap.size + 1 + 1) (a + b) (a + b) (by simp))
  have x2l := (hF.at 2 rfl).lo
  have x2h := (hF.at 2 rfl).hi
  have x3l := (hF.at 1 rfl).lo
  have x3h := (hF.at 1 rfl).hi
  have x4l := (hF.at 0 rfl).lo
  have x4h := (hF.at 0 rfl).hi
  clear x0l x0h
  go_wp2
  go_returns
  exact ⟨rfl, hF.below⟩

set_option maxRecDepth 100000 in
set_option maxHeartbeats 16000000 in
theorem walk_not (a b lo hi : Int) (w : World) (h : ¬ (Um.nsumAll a a b b lo hi).2.2.2 = 0) :
    Calls Try.prog 3 #[.int .i64 a, .int .i64 b, .agg #[.int .i64 lo, .int .i64 hi]] w fun e w' => e = .returned (.bool true) ∧ Below w.heap.size w w' := by
  have v0 := errV_none
  have q1 := errG
  have q2 := errGn
  have q3 := errE
  have q4 := errN
  have hF := (Fr.start w).push lo hi rfl
  have x0l := (hF.at 0 rfl).lo
  have x0h := (hF.at 0 rfl).hi
  have HSM := fun w => hid (nwSum_any a a b b lo hi w)
  have HCK := fun w => hid (check_any lo hi w)
  have k : ((Um.nsumAll a a b b lo hi).2.2.2 != 0) = true := by simpa using h
  have HN := hid (fun h1 h2 h3 h4 => Um.point_not h h1 h2 h3 h4)
  have HMW : Hid (-500000000 ≤ a → a ≤ 500000000 → -500000000 ≤ b → b ≤ 500000000 → IntKind.i64.wrap (a + b) = a + b) := hid fun h1 h2 h3 h4 => by rw [IntKind.wrap_i64]; omega
  clear h
  obtain ⟨M, hM⟩ : ∃ M, M = IntKind.i64.wrap (a + b) := ⟨_, rfl⟩
  rw [← hM] at HMW
  have KM : IntKind.i64.wrap (a + b) = M := hM.symm
  clear hM
  generalize Um.nsumAll a a b b lo hi = S at *
  by_cases t0 : M < lo
  · have d0 : decide (M < lo) = true := decide_eq_true t0
    clear t0 HN HMW HCK
    go_enter Try.func3, Try.ntmps3
    go_upto_region 3 with (go_at_call 4; refine (HSM _).out.mono ?_; rintro e wn ⟨rfl, hb⟩; replace hF := hF.step hb; clear hb; clear HSM; clear x0l x0h; replace hF := ((hF.push (b := wn.heap.size) S.1.1 S.1.2 rfl).push (b := wn.heap.size + 1) S.2.1.1 S.2.1.2 (by simp)).push (b := wn.heap.size + 1 + 1) S.2.2.1.1 S.2.2.1.2 (by simp))
    have x0l := (hF.at 3 rfl).lo
    have x0h := (hF.at 3 rfl).hi

    go_wp2
    go_returns
    exact ⟨rfl, hF.below⟩
  have d0 : decide (M < lo) = false := decide_eq_false t0
  by_cases t1 : hi < M
  · have d1 : decide (hi < M) = true := decide_eq_true t1
    clear t1 HN HMW HCK
    go_enter Try.func3, Try.ntmps3
    go_upto_region 3 with (go_at_call 4; refine (HSM _).out.mono ?_; rintro e wn ⟨rfl, hb⟩; replace hF := hF.step hb; clear hb; clear HSM; clear x0l x0h; replace hF := ((hF.push (b := wn.heap.size) S.1.1 S.1.2 rfl).push (b := wn.heap.size + 1) S.2.1.1 S.2.1.2 (by simp)).push (b := wn.heap.size + 1 + 1) S.2.2.1.1 S.2.2.1.2 (by simp))
    have x0l := (hF.at 3 rfl).lo
    have x0h := (hF.at 3 rfl).hi

    go_wp2
    go_returns
    exact ⟨rfl, hF.below⟩
  have d1 : decide (hi < M) = false := decide_eq_false t1
  by_cases t2 : a < -500000000
  · have d2 : decide (a < -500000000) = true := decide_eq_true t2
    clear t2 HN HMW HCK
    go_enter Try.func3, Try.ntmps3
    go_upto_region 3 with (go_at_call 4; refine (HSM _).out.mono ?_; rintro e wn ⟨rfl, hb⟩; replace hF := hF.step hb; clear hb; clear HSM; clear x0l x0h; replace hF := ((hF.push (b := wn.heap.size) S.1.1 S.1.2 rfl).push (b := wn.heap.size + 1) S.2.1.1 S.2.1.2 (by simp)).push (b := wn.heap.size + 1 + 1) S.2.2.1.1 S.2.2.1.2 (by simp))
    have x0l := (hF.at 3 rfl).lo
    have x0h := (hF.at 3 rfl).hi

    go_wp2
    go_returns
    exact ⟨rfl, hF.below⟩
  have d2 : decide (a < -500000000) = false := decide_eq_false t2
  by_cases t3 : 500000000 < a
  · have d3 : decide (500000000 < a) = true := decide_eq_true t3
    clear t3 HN HMW HCK
    go_enter Try.func3, Try.ntmps3
    go_upto_region 3 with (go_at_call 4; refine (HSM _).out.mono ?_; rintro e wn ⟨rfl, hb⟩; replace hF := hF.step hb; clear hb; clear HSM; clear x0l x0h; replace hF := ((hF.push (b := wn.heap.size) S.1.1 S.1.2 rfl).push (b := wn.heap.size + 1) S.2.1.1 S.2.1.2 (by simp)).push (b := wn.heap.size + 1 + 1) S.2.2.1.1 S.2.2.1.2 (by simp))
    have x0l := (hF.at 3 rfl).lo
    have x0h := (hF.at 3 rfl).hi

    go_wp2
    go_returns
    exact ⟨rfl, hF.below⟩
  have d3 : decide (500000000 < a) = false := decide_eq_false t3
  by_cases t4 : b < -500000000
  · have d4 : decide (b < -500000000) = true := decide_eq_true t4
    clear t4 HN HMW HCK
    go_enter Try.func3, Try.ntmps3
    go_upto_region 3 with (go_at_call 4; refine (HSM _).out.mono ?_; rintro e wn ⟨rfl, hb⟩; replace hF := hF.step hb; clear hb; clear HSM; clear x0l x0h; replace hF := ((hF.push (b := wn.heap.size) S.1.1 S.1.2 rfl).push (b := wn.heap.size + 1) S.2.1.1 S.2.1.2 (by simp)).push (b := wn.heap.size + 1 + 1) S.2.2.1.1 S.2.2.1.2 (by simp))
    have x0l := (hF.at 3 rfl).lo
    have x0h := (hF.at 3 rfl).hi

    go_wp2
    go_returns
    exact ⟨rfl, hF.below⟩
  have d4 : decide (b < -500000000) = false := decide_eq_false t4
  by_cases t5 : 500000000 < b
  · have d5 : decide (500000000 < b) = true := decide_eq_true t5
    clear t5 HN HMW HCK
    go_enter Try.func3, Try.ntmps3
    go_upto_region 3 with (go_at_call 4; refine (HSM _).out.mono ?_; rintro e wn ⟨rfl, hb⟩; replace hF := hF.step hb; clear hb; clear HSM; clear x0l x0h; replace hF := ((hF.push (b := wn.heap.size) S.1.1 S.1.2 rfl).push (b := wn.heap.size + 1) S.2.1.1 S.2.1.2 (by simp)).push (b := wn.heap.size + 1 + 1) S.2.2.1.1 S.2.2.1.2 (by simp))
    have x0l := (hF.at 3 rfl).lo
    have x0h := (hF.at 3 rfl).hi

    go_wp2
    go_returns
    exact ⟨rfl, hF.below⟩
  have d5 : decide (500000000 < b) = false := decide_eq_false t5
  have e := HMW.out (by omega) (by omega) (by omega) (by omega)
  have g := HN.out (by omega) (by omega) (by omega) (by omega)
  rw [← e] at g
  have z : ¬ Um.chk lo hi = 0 := by
    rcases g with g | g | g
    · exact absurd g t0
    · exact absurd g t1
    · exact g
  have kz : (Um.chk lo hi != 0) = true := by simpa using z
  clear e g z HN HMW t0 t1 t2 t3 t4 t5
  generalize Um.chk lo hi = G at *
  go_enter Try.func3, Try.ntmps3
  go_upto_region 3 with (go_at_call 4; refine (HSM _).out.mono ?_; rintro e wn ⟨rfl, hb⟩; replace hF := hF.step hb; clear hb; clear HSM; clear x0l x0h; replace hF := ((hF.push (b := wn.heap.size) S.1.1 S.1.2 rfl).push (b := wn.heap.size + 1) S.2.1.1 S.2.1.2 (by simp)).push (b := wn.heap.size + 1 + 1) S.2.2.1.1 S.2.2.1.2 (by simp))
  have x0l := (hF.at 3 rfl).lo
  have x0h := (hF.at 3 rfl).hi
  go_wp2_with (go_at_call 5; refine (HCK _).out.mono ?_; rintro e wn ⟨rfl, rfl⟩; replace hF := hF.alloc (.cells #[.int .i64 lo, .int .i64 hi] 23))
  go_returns
  exact ⟨rfl, hF.below⟩

theorem walk (a b lo hi : Int) (w : World) :
    Calls Try.prog 3 #[.int .i64 a, .int .i64 b, .agg #[.int .i64 lo, .int .i64 hi]] w fun e w' => e = .returned (.bool true) ∧ Below w.heap.size w w' := by
  by_cases h : (Um.nsumAll a a b b lo hi).2.2.2 = 0
  · exact walk_told a b lo hi w h
  · exact walk_not a b lo hi w h
end Go.Proofs.Ytomkekapgcpihaa.NwPoint
