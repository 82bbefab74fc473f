/-
  Proved: 'spanlaw3.RunBegins' returns true for every text t and every int many: the answers to a beginning are a beginning of the answers.
  Condition: errors.errorType and the tables internal/strconv.uint64pow10, math/bits.deBruijn32tab and deBruijn64tab, unicode/utf8.acceptRanges and first are as the program's text lays them (the card ties them to that text; utf8.first is one of the form's pinned tables).
-/
import Derived.Test.YtkfalmdckmlneaaGreatDoorRnBegins
import Derived.Test.YtkfalmdckmlneaaGreatDoorLaid
import Derived.Test.YtkfalmdckmlneaaGreatDoorCards
import Derived.Test.YtkfalmdckmlneaaGreatDoorTie
import Derived.Lay
namespace Go.Proofs.YtkfalmdckmlneaaGreatDoor.RnBegins
set_option linter.unusedSimpArgs false
open Go.ChangeShapes Go.WideShapes Go.ChangeAt Go.RowKit
open Go.ChangeMaps (open_string shut_string)

abbrev laid : List (String × DataW Unit) := Rows.runBeginsRow.laid
/-- The tables among them: these the kit's function lays (utf8.first is pinned: no run of the door lays it). -/
abbrev tables : List String := ["math/bits.deBruijn32tab", "math/bits.deBruijn64tab", "internal/strconv.uint64pow10", "unicode/utf8.acceptRanges", "unicode/utf8.first"]
abbrev plain : List (String × DataW Unit) := laid.filter fun x => x.2.handleName?.isNone
theorem no_other : (plain.filter fun x => !tables.contains x.1) = [] := by kernel_rfl
theorem met (os : Os) (args : Array Value) : laidMetH Tryz.prog laid (((World.doorLaid Tryz.prog 4000 os).layVars Tryz.prog (plain.filter fun x => tables.contains x.1)).forCall (fun _ _ => 0) ⟨#[], args, []⟩).memory :=
  laidMetH_of_parts3 (fuel := 8) (laidMet_layVars (w0 := World.doorLaid Tryz.prog 4000 os) tables [] (by simp [World.memory, World.forCall, Input.heap]) (by kernel_rfl) (by kernel_rfl) (by rw [no_other]; exact LaidIn.none)) (by kernel_rfl) (by kernel_rfl)

set_option maxRecDepth 100000 in
theorem lifted (os : Os) (started : os.Started) (H : Type) (enc : TypeId × Value → H) :
    ReturnsInHanded {} Tryz.checked os 4 .any (fun w args => (Rows.runBeginsSpec.pre enc Tryz.prog Tryz.f4 [] false w args ∧ laidMetH Tryz.prog laid w) ∧ sizedMet enc Tryz.prog Tryz.f4 (OpenSpec.ofChange Rows.runBeginsSpec) false w args)
      (Rows.runBeginsSpec.post enc Tryz.prog Tryz.f4 false true false false) := by
  refine wrap (C := Tryz.checked) (X := fun w _ => laidMetH Tryz.prog laid w) (fun _ _ _ hh h => h.of_heap hh) own started (by kernel_rfl) Tryz.func4
    (ChangeSpec.witness_shaped (enc := enc) (C := Tryz.checked) (os := os) (X := fun w _ => laidMetH Tryz.prog laid w) false ((World.doorLaid Tryz.prog 4000 os).layVars Tryz.prog (plain.filter fun x => tables.contains x.1)) #[.string ⟨#[]⟩, .int .i64 0] 8 (World.layVars_os _ _ _) (World.shaped_of_ZipB (by kernel_rfl) (by kernel_rfl)) (by kernel_rfl) (by kernel_rfl) (by kernel_rfl) (met os _)) ?_
  intro W base args ds gs before hval0 hW hL hsh
  have hval : ∀ (j : Nat) t v, Tryz.f4.params[j]? = some t → args[j]? = some v → Value.okWide Tryz.prog W .any base t v := hval0
  have hW' := hW
  obtain ⟨p, q, hA0, hV, rfl, hfz, hnd⟩ := hW
  have hA : DataW.TrodAll enc Tryz.prog W 0 (fun _ => true) true Tryz.f4.params.toList args.toList ds p := hA0
  rw [Tryz.params4] at hA hval
  obtain ⟨v0, v1, d0, d1, p0, p1, rfl, rfl, rfl, h0, h1⟩ := trodAll_two hA
  obtain ⟨rfl, rfl⟩ := trodVars_none hV
  obtain ⟨s0, rfl, rfl, rfl, hs0⟩ := open_string Tryz.underlying9 (hval 0 9 v0 rfl rfl) h0
  obtain ⟨a1, rfl, rfl, rfl, wa1⟩ := open_int Tryz.underlying3 (hval 1 3 v1 rfl rfl) h1
  have hv : Hv W := ⟨hasErr_of hL (by kernel_rfl), hasPow_of hL (by kernel_rfl), hasLen_of hsh⟩
  clear hA0 hval0
  simp only [List.append_nil] at hW'
  refine (walk s0 a1 W hv hs0).mono fun e W' ⟨he, hb⟩ => ?_
  subst he
  refine ⟨_, rfl, _, _, _, [], [], [], hW', ?_, ?_, ?_, hb.frame _, fun h => by cases h⟩
  · exact trodAll_mk1 (shut_bool Tryz.underlying4 true)
  · exact trodAll_mk2 (shut_string Tryz.underlying9 hs0) (shut_int Tryz.underlying3 wa1)
  · rfl

theorem over : Rows.RunBeginsSaid :=
  OpenClaim.holds_of_wide 4 Tryz.f4 rfl rfl rfl rfl rfl rfl rfl ⟨rfl, rfl, rfl, rfl, rfl⟩ rfl rfl rfl rfl rfl (by kernel_rfl) Tryz.func4 (by kernel_rfl)
    (of_decide_eq_true (by kernel_rfl)) (by unfold Func.isWrapper; first | (rw [if_pos (by decide +kernel)]; kernel_rfl) | (rw [if_neg (by decide +kernel)]; exact ⟨rfl, rfl⟩))
    (fun os started H enc _ => lifted os started H enc)
end Go.Proofs.YtkfalmdckmlneaaGreatDoor.RnBegins
namespace Go.Proofs.YtkfalmdckmlneaaGreatDoor
open Go
theorem runBegins_holds : Rows.RunBeginsCardSaid :=
  Claim7.holds_tied_plain_at .later [] Rows.runBeginsCard.laidKinds true Rows.runBeginsCard.stood.harness Rows.runBeginsCard.stood.looks
    RnBegins.over (fun _ h => by cases h) (by kernel_rfl) (fun _ h => by cases h) runBegins_row_tie rfl ⟨rfl, rfl⟩ (by kernel_rfl) rfl
    (fun f fn hf hfn => by
      obtain rfl : f = 4 := Option.some.inj ((show Tryz.prog.funcNamed "spanmeadow/spanlaw3.RunBegins" = some 4 by kernel_rfl).symm.trans hf) |>.symm
      obtain rfl : fn = Tryz.f4 := (Option.some.inj (Tryz.func4.symm.trans hfn)).symm
      exact ⟨by kernel_rfl, fun j t ht => by
        rw [Tryz.params4] at ht
        have hm : t ∈ [9, 3] := by simpa using Array.mem_of_getElem? ht
        have hall : ([9, 3].all fun u => !Tryz.prog.wantsStandIn u) = true := by kernel_rfl
        exact (show Tryz.prog.wantsStandIn t = false by simpa using List.all_eq_true.1 hall t hm)⟩)
    (by kernel_rfl)
#print axioms runBegins_holds
end Go.Proofs.YtkfalmdckmlneaaGreatDoor
