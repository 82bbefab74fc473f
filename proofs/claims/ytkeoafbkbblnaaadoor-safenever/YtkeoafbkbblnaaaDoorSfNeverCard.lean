/-
  Proved: 'spanlaw2.SafeNever' returns true for every system s, all lists of spans b and bad, every list of numbers x and every list of such lists push, and each reads afterwards as it read before.
  Condition: the package variable errors.errorType is as the program's text lays it (the card ties it to that text).
-/
import Derived.Test.YtkeoafbkbblnaaaDoorSfNever
import Derived.Test.YtkeoafbkbblnaaaDoorLaidErr
import Derived.Test.YtkeoafbkbblnaaaDoorCards
import Derived.Test.YtkeoafbkbblnaaaDoorTie
import Derived.Test.YtkeoafbkbblnaaaDoorShutSys
import Derived.Test.YtkeoafbkbblnaaaDoorShutSpans
import Derived.Test.YtkeoafbkbblnaaaDoorShutList
import Derived.Test.YtkeoafbkbblnaaaDoorShutLists
import Derived.Test.YtkeoafbkbblnaaaDoorMany
import Derived.Carry
namespace Go.Proofs.YtkeoafbkbblnaaaDoor.SfNever
set_option linter.unusedSimpArgs false
open Go.ChangeShapes Go.WideShapes Go.ChangeAt Go.RowKit

abbrev laid : List (String × DataW Unit) := Rows.safeNeverRow.laid
theorem met (os : Os) (args : Array Value) : laidMetH Tryd.prog laid ((World.doorLaid Tryd.prog 4000 os).forCall (fun _ _ => 0) ⟨#[], args, []⟩).memory :=
  laidMetH_of_parts3 (fuel := 8) (laidMet_of_run' 8 (by kernel_rfl) (by kernel_rfl)) (by kernel_rfl) (by kernel_rfl)

set_option maxRecDepth 100000 in
theorem lifted (os : Os) (started : os.Started) (H : Type) (enc : TypeId × Value → H) :
    ReturnsInHanded {} Tryd.checked os 6 .any (fun w args => (Rows.safeNeverSpec.pre enc Tryd.prog Tryd.f6 [] false w args ∧ laidMetH Tryd.prog laid w) ∧ sizedMet enc Tryd.prog Tryd.f6 (OpenSpec.ofChange Rows.safeNeverSpec) false w args)
      (Rows.safeNeverSpec.post enc Tryd.prog Tryd.f6 false true false false) := by
  refine wrap (C := Tryd.checked) (X := fun w _ => laidMetH Tryd.prog laid w) (fun _ _ _ hh h => h.of_heap hh) own started (by kernel_rfl) Tryd.func6
    (ChangeSpec.witness_shaped (enc := enc) (C := Tryd.checked) (os := os) (X := fun w _ => laidMetH Tryd.prog laid w) false (World.doorLaid Tryd.prog 4000 os) #[.agg #[.slice none 0 0, .slice none 0 0], .slice none 0 0, .slice none 0 0, .slice none 0 0, .slice none 0 0] 8 rfl (World.shaped_of_RefB (by kernel_rfl) (by kernel_rfl)) (by kernel_rfl) (by kernel_rfl) (by kernel_rfl) (met os _)) ?_
  intro W base args ds gs before hval0 hW hL hsh
  have hval : ∀ (j : Nat) t v, Tryd.f6.params[j]? = some t → args[j]? = some v → Value.okWide Tryd.prog W .any base t v := hval0
  have hW' := hW
  obtain ⟨p, q, hA0, hV, rfl, hfz, hnd⟩ := hW
  have hA : DataW.TrodAll enc Tryd.prog W 0 (fun _ => true) true Tryd.f6.params.toList args.toList ds p := hA0
  rw [Tryd.params6] at hA hval
  obtain ⟨v0, v1, v2, v3, v4, d0, d1, d2, d3, d4, p0, p1, p2, p3, p4, rfl, rfl, rfl, h0, h1, h2, h3, h4⟩ := trodAll_five hA
  obtain ⟨rfl, rfl⟩ := trodVars_none hV
  have h0k := h0
  obtain ⟨m0, n0, s0, y0, rfl, l0, k0⟩ := open_system (hval 0 25 v0 rfl rfl) h0
  have h1k := h1
  obtain ⟨q1, l1⟩ := open_spans (hval 1 23 v1 rfl rfl) h1
  have h2k := h2
  obtain ⟨q2, l2⟩ := open_spans (hval 2 23 v2 rfl rfl) h2
  have h3k := h3
  obtain ⟨q3, l3⟩ := open_list (hval 3 58 v3 rfl rfl) h3
  have h4k := h4
  obtain ⟨q4, l4⟩ := open_lists (hval 4 59 v4 rfl rfl) h4
  have hg := hasErr_of hL (by kernel_rfl)
  clear hA0 hval0
  simp only [List.append_nil, List.nil_append] at hW'
  have hlt0 : ∀ x ∈ p0, x.block < W.heap.size := fun x hx => hW'.lt x (by simp [hx])
  have hlt1 : ∀ x ∈ p1, x.block < W.heap.size := fun x hx => hW'.lt x (by simp [hx])
  have hlt2 : ∀ x ∈ p2, x.block < W.heap.size := fun x hx => hW'.lt x (by simp [hx])
  have hlt3 : ∀ x ∈ p3, x.block < W.heap.size := fun x hx => hW'.lt x (by simp [hx])
  have hlt4 : ∀ x ∈ p4, x.block < W.heap.size := fun x hx => hW'.lt x (by simp [hx])
  refine (walk s0 m0 y0 n0 q1 v1 q2 v2 q3 v3 q4 v4 W hg l0 k0 l1 l2 l3 l4).mono fun e W' ⟨he, hb⟩ => ?_
  subst he
  refine ⟨_, rfl, _, _, _, [], p0 ++ p1 ++ p2 ++ p3 ++ p4, [], hW', ?_, ?_, ?_, hb.frame _, fun h => by cases h⟩
  · exact trodAll_mk1 (shut_bool Tryd.underlying4 true)
  · have hm := trodAll_mk5 (Below.trod laidOut (by kernel_rfl) (of_decide_eq_true (by kernel_rfl)) h0k hb hlt0) (Below.trod laidOut (by kernel_rfl) (of_decide_eq_true (by kernel_rfl)) h1k hb hlt1) (Below.trod laidOut (by kernel_rfl) (of_decide_eq_true (by kernel_rfl)) h2k hb hlt2) (Below.trod laidOut (by kernel_rfl) (of_decide_eq_true (by kernel_rfl)) h3k hb hlt3) (Below.trod laidOut (by kernel_rfl) (of_decide_eq_true (by kernel_rfl)) h4k hb hlt4)
    try simp only [List.append_nil, List.nil_append, ← List.append_assoc] at hm
    exact hm
  · rfl

theorem over : Rows.SafeNeverSaid :=
  OpenClaim.holds_of_wide 6 Tryd.f6 rfl rfl rfl rfl rfl rfl rfl ⟨rfl, rfl, rfl, rfl, rfl⟩ rfl rfl rfl rfl rfl (by kernel_rfl) Tryd.func6 (by kernel_rfl)
    (of_decide_eq_true (by kernel_rfl)) (by unfold Func.isWrapper; first | (rw [if_pos (by decide +kernel)]; kernel_rfl) | (rw [if_neg (by decide +kernel)]; exact ⟨rfl, rfl⟩))
    (fun os started H enc _ => lifted os started H enc)
end Go.Proofs.YtkeoafbkbblnaaaDoor.SfNever
namespace Go.Proofs.YtkeoafbkbblnaaaDoor
open Go
theorem safeNever_holds : Rows.SafeNeverCardSaid :=
  Claim7.holds_tied_plain_at .later [] Rows.safeNeverCard.laidKinds true Rows.safeNeverCard.stood.harness Rows.safeNeverCard.stood.looks
    SfNever.over (fun _ h => by cases h) (by kernel_rfl) (fun _ h => by cases h) safeNever_row_tie rfl ⟨rfl, rfl⟩ (by kernel_rfl) rfl
    (fun f fn hf hfn => by
      obtain rfl : f = 6 := Option.some.inj ((show Tryd.prog.funcNamed "spanmeadow/spanlaw2.SafeNever" = some 6 by kernel_rfl).symm.trans hf) |>.symm
      obtain rfl : fn = Tryd.f6 := (Option.some.inj (Tryd.func6.symm.trans hfn)).symm
      exact ⟨by kernel_rfl, fun j t ht => by
        rw [Tryd.params6] at ht
        have hm : t ∈ [25, 23, 23, 58, 59] := by simpa using Array.mem_of_getElem? ht
        have hall : ([25, 23, 23, 58, 59].all fun u => !Tryd.prog.wantsStandIn u) = true := by kernel_rfl
        exact (show Tryd.prog.wantsStandIn t = false by simpa using List.all_eq_true.1 hall t hm)⟩)
    (by kernel_rfl)
#print axioms safeNever_holds
end Go.Proofs.YtkeoafbkbblnaaaDoor
