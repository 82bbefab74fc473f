/-
  Proved: 'spanlaw4.UnitOne' returns true for every n: times one a number is itself, and by one; by nothing it is refused (error 8, or 1 where n is none that may be).
  Condition: the package variable errors.errorType is as the program's text lays it (the card ties it to that text).
-/
import Derived.Test.YthoeifpmakdfnaaDoorUnit
import Derived.Test.YthoeifpmakdfnaaDoorRows
import Derived.Test.YthoeifpmakdfnaaDoorCards
import Derived.Test.YthoeifpmakdfnaaDoorTie
import Derived.ProofKit
import Derived.LaidMore
import Derived.OpenShut
import Derived.LaidHandle
import Derived.Stop.Joined
namespace Go.Proofs.YthoeifpmakdfnaaDoor.One
set_option linter.unusedSimpArgs false
open Go.ChangeShapes Go.WideShapes Go.ChangeAt Go.RowKit

theorem fl_one (n : Int) : Um.fl (n * 1000) 1000 = n := by rw [Um.fl_pos (by decide)]; omega
theorem ce_one (n : Int) : Um.ce (n * 1000) 1000 = n := by rw [Um.ce_pos (by decide)]; omega
theorem next_one (n : Int) (h : Um.may n = true) : Um.nextR (n * 1000) 1000 = (n, n, 0) := by simp [Um.nextR, fl_one, ce_one, h]
theorem may_thou : Um.may 1000 = true := by decide
theorem may_zero : Um.may 0 = true := by decide

set_option maxHeartbeats 1000000 in
theorem walk_in (n : Int) (w : World) (hg : HasErr w) (hm : Um.may n = true) :
    Calls Tryd.prog 5 #[.int .i64 n] w fun e w' => e = .returned (.bool true) ∧ Below w.heap.size w w' := by
  have e1 : Um.timesR n 1000 = (n, n, 0) := by simp [Um.timesR, hm, may_thou, next_one n hm]
  have e2 : Um.byR n 1000 = (n, n, 0) := by simp [Um.byR, hm, may_thou, next_one n hm]
  have e3 : Um.byR n 0 = (0, 0, 8) := by simp [Um.byR, hm, may_zero]
  have v0 := errV_none
  have v8 : errV 8 = .iface 63 (.int .i64 8) := errV_some (by decide)
  clear hm
  have hI := Inv.start hg
  clear hg
  go_enter Tryd.func5, Tryd.ntmps5
  go_wp2_with (first | (go_at_call 12; refine (times_any _ _ _).mono ?_; rintro e w1 ⟨rfl, hb⟩; replace hI := hI.step hb; clear hb) | (go_at_call 15; refine (by_any _ _ _).mono ?_; rintro e w1 ⟨rfl, hb⟩; replace hI := hI.step hb; clear hb) | (go_at_call 13; refine (same_hit _ _ _ hI.err).mono ?_; rintro e w1 ⟨rfl, hb⟩; replace hI := hI.step hb; clear hb))
  go_ret
  exact ⟨rfl, hI.below⟩

set_option maxHeartbeats 1000000 in
theorem walk_out (n : Int) (w : World) (hg : HasErr w) (hm : Um.may n = false) :
    Calls Tryd.prog 5 #[.int .i64 n] w fun e w' => e = .returned (.bool true) ∧ Below w.heap.size w w' := by
  have e1 : Um.timesR n 1000 = (0, 0, 1) := by simp [Um.timesR, hm]
  have e2 : Um.byR n 1000 = (0, 0, 1) := by simp [Um.byR, hm]
  have e3 : Um.byR n 0 = (0, 0, 1) := by simp [Um.byR, hm]
  have v1 : errV 1 = .iface 63 (.int .i64 1) := errV_some (by decide)
  have hr : n < -1000000000 ∨ 1000000000 < n := by have := (Um.may_not n).1 hm; omega
  have hI := Inv.start hg
  clear hg hm
  rcases hr with hr | hr
  · have hr' : decide (n < -1000000000) = true := by simpa using hr
    go_enter Tryd.func5, Tryd.ntmps5
    go_wp2_with (first | (go_at_call 12; refine (times_any _ _ _).mono ?_; rintro e w1 ⟨rfl, hb⟩; replace hI := hI.step hb; clear hb) | (go_at_call 15; refine (by_any _ _ _).mono ?_; rintro e w1 ⟨rfl, hb⟩; replace hI := hI.step hb; clear hb) | (go_at_call 13; refine (same_hit _ _ _ hI.err).mono ?_; rintro e w1 ⟨rfl, hb⟩; replace hI := hI.step hb; clear hb))
    go_ret
    exact ⟨rfl, hI.below⟩
  · have hr' : decide (n < -1000000000) = false := by simp; omega
    have hr'' : decide (1000000000 < n) = true := by simpa using hr
    go_enter Tryd.func5, Tryd.ntmps5
    go_wp2_with (first | (go_at_call 12; refine (times_any _ _ _).mono ?_; rintro e w1 ⟨rfl, hb⟩; replace hI := hI.step hb; clear hb) | (go_at_call 15; refine (by_any _ _ _).mono ?_; rintro e w1 ⟨rfl, hb⟩; replace hI := hI.step hb; clear hb) | (go_at_call 13; refine (same_hit _ _ _ hI.err).mono ?_; rintro e w1 ⟨rfl, hb⟩; replace hI := hI.step hb; clear hb))
    go_ret
    exact ⟨rfl, hI.below⟩

theorem walk (n : Int) (w : World) (hg : HasErr w) :
    Calls Tryd.prog 5 #[.int .i64 n] w fun e w' => e = .returned (.bool true) ∧ Below w.heap.size w w' := by
  cases hm : Um.may n
  · exact walk_out n w hg hm
  · exact walk_in n w hg hm

theorem own : ownKnob Tryd.prog.godebug = none := by kernel_rfl
theorem et : Tryd.prog.globalNamed "errors.errorType" = some 0 := by kernel_rfl
theorem rt : (Tryd.prog.cutTypes.find? (·.1 == "internal/reflectlite.rtype")).map (·.2) = some 110 := by kernel_rfl
theorem oneRow : ((List.range 176).filter fun t => Tryd.prog.rowNamed t [101, 114, 114, 111, 114]) = [29] := by kernel_rfl
theorem size : Tryd.prog.types.size = 176 := by kernel_rfl

theorem hasErr_of {W : World} (h : handlesMet Tryd.prog [("errors.errorType", Rows.laid_errors_errorType)] W) : HasErr W := by
  obtain ⟨name, u, ty, e1, e2, e3, e4, e5⟩ := h _ (List.mem_singleton.2 rfl)
  have en : name = [101, 114, 114, 111, 114] := (Option.some.inj e1).symm
  subst en
  obtain rfl := Option.some.inj (rt.symm.trans e2)
  have hm : ty ∈ (List.range 176).filter fun t => Tryd.prog.rowNamed t [101, 114, 114, 111, 114] := List.mem_filter.2 ⟨List.mem_range.2 (by rw [← size]; exact e3), e4⟩
  rw [oneRow] at hm
  obtain rfl := List.mem_singleton.1 hm
  have hh : typeHandle Tryd.prog 29 = .pointer (some ⟨5, 29, none⟩) := by kernel_rfl
  rw [hh] at e5
  unfold HasErr
  simpa using World.var?_cell et e5 0

abbrev laid : List (String × DataW Unit) := Rows.unitOneRow.laid
theorem met (os : Os) (args : Array Value) : laidMetH Tryd.prog laid ((World.doorLaid Tryd.prog 4000 os).forCall (fun _ _ => 0) ⟨#[], args, []⟩).memory :=
  laidMetH_of_parts3 (fuel := 8) (laidMet_of_run' 8 (by kernel_rfl) (by kernel_rfl)) (by kernel_rfl) (by kernel_rfl)

set_option maxRecDepth 100000 in
theorem lifted (os : Os) (started : os.Started) (H : Type) (enc : TypeId × Value → H) :
    ReturnsInHanded {} Tryd.checked os 5 .any (fun w args => (Rows.unitOneSpec.pre enc Tryd.prog Tryd.f5 [] false w args ∧ laidMetH Tryd.prog laid w) ∧ sizedMet enc Tryd.prog Tryd.f5 (OpenSpec.ofChange Rows.unitOneSpec) false w args)
      (Rows.unitOneSpec.post enc Tryd.prog Tryd.f5 false true false false) := by
  refine returnsInHanded_of_change_and (C := Tryd.checked) (X := fun w _ => laidMetH Tryd.prog laid w) (fun _ _ _ hh h => h.of_heap hh) own started (by kernel_rfl) Tryd.func5
    (ChangeSpec.witness_shaped (enc := enc) (C := Tryd.checked) (os := os) (X := fun w _ => laidMetH Tryd.prog laid w) false (World.doorLaid Tryd.prog 4000 os) #[.int .i64 0] 8 rfl (World.shaped_of_RefB (by kernel_rfl) (by kernel_rfl)) (by kernel_rfl) (by kernel_rfl) (by kernel_rfl) (met os _)) ?_
  intro W base args ds gs before hval0 hW _ _ hL _
  have hval : ∀ (j : Nat) t v, Tryd.f5.params[j]? = some t → args[j]? = some v → Value.okWide Tryd.prog W .any base t v := hval0
  have hW' := hW
  obtain ⟨p, q, hA0, hV, rfl, hfz, hnd⟩ := hW
  have hA : DataW.TrodAll enc Tryd.prog W 0 (fun _ => true) true Tryd.f5.params.toList args.toList ds p := hA0
  rw [Tryd.params5] at hA hval
  obtain ⟨v0, d0, rfl, rfl, h0⟩ := trodAll_one hA
  obtain ⟨rfl, rfl⟩ := trodVars_none hV
  obtain ⟨n, rfl, rfl, rfl, hwn⟩ := open_int Tryd.underlying3 (hval 0 3 v0 rfl rfl) h0
  have hg := hasErr_of (show laidMet Tryd.prog [] W ∧ handlesMet Tryd.prog [("errors.errorType", Rows.laid_errors_errorType)] W from hL).2
  clear hA0 hval0
  simp only [List.append_nil] at hW'
  refine (walk n W hg).mono fun e W' ⟨he, hb⟩ => ?_
  subst he
  refine ⟨_, rfl, _, _, _, [], [], [], hW', ?_, ?_, ?_, hb.frame _, fun h => by cases h⟩
  · exact trodAll_mk1 (shut_bool Tryd.underlying4 true)
  · exact trodAll_mk1 (shut_int Tryd.underlying3 hwn)
  · rfl

theorem over : Rows.UnitOneSaid :=
  OpenClaim.holds_of_wide 5 Tryd.f5 rfl rfl rfl rfl rfl rfl rfl ⟨rfl, rfl, rfl, rfl, rfl⟩ rfl rfl rfl rfl rfl (by kernel_rfl) Tryd.func5 (by kernel_rfl)
    (of_decide_eq_true (by kernel_rfl)) (by unfold Func.isWrapper; first | (rw [if_pos (by decide +kernel)]; kernel_rfl) | (rw [if_neg (by decide +kernel)]; exact ⟨rfl, rfl⟩))
    (fun os started H enc _ => lifted os started H enc)
end Go.Proofs.YthoeifpmakdfnaaDoor.One
namespace Go.Proofs.YthoeifpmakdfnaaDoor
open Go
theorem unitOne_holds : Rows.UnitOneCardSaid :=
  Claim7.holds_tied_plain_at .later [] [.handle] true Rows.unitOneCard.stood.harness Rows.unitOneCard.stood.looks
    One.over (fun _ h => by cases h) (by kernel_rfl) (fun _ h => by cases h) unitOne_row_tie rfl ⟨rfl, rfl⟩ (by kernel_rfl) rfl
    (fun f fn hf hfn => by
      obtain rfl : f = 5 := Option.some.inj ((show Tryd.prog.funcNamed "spanmeadow/spanlaw4.UnitOne" = some 5 by kernel_rfl).symm.trans hf) |>.symm
      obtain rfl : fn = Tryd.f5 := (Option.some.inj (Tryd.func5.symm.trans hfn)).symm
      exact ⟨by kernel_rfl, fun j t ht => by
        rw [Tryd.params5] at ht
        have hm : t ∈ [3] := by simpa using Array.mem_of_getElem? ht
        have hall : ([3].all fun u => !Tryd.prog.wantsStandIn u) = true := by kernel_rfl
        exact (show Tryd.prog.wantsStandIn t = false by simpa using List.all_eq_true.1 hall t hm)⟩)
    (by kernel_rfl)
#print axioms unitOne_holds
end Go.Proofs.YthoeifpmakdfnaaDoor
