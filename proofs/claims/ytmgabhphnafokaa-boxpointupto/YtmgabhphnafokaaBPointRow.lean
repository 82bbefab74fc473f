/-
  Proved: 'spanlaw4.BoxPoint' returns true for every list x of at most 1048576 numbers, and the list reads afterwards as it read before.
  Condition: what the call is handed is of bulk at most 1048576 (a list has no more numbers than that).
-/
import Derived.Test.YtmgabhphnafokaaBPoint
import Derived.Test.YtmgabhphnafokaaRows
import Derived.Test.YtmgabhphnafokaaShut
import Derived.Test.YtmgabhphnafokaaBulk
import Derived.JoinedCond
import Derived.Test.YtmgabhphnafokaaShutList
namespace Go.Proofs.Ytmgabhphnafokaa.BPoint
set_option linter.unusedSimpArgs false
open Go.ChangeShapes Go.WideShapes Go.ChangeAt Go.RowKit

set_option maxRecDepth 100000 in
theorem lifted (os : Os) (started : os.Started) (H : Type) (enc : TypeId × Value → H) (G : Stop.Interp) :
    ReturnsInHanded {} Try.checked os 4 .any ((Rows.OpenSpec.upto Rows.boxPointSpec).pre6 enc Try.prog Try.f4 Rows.boxPointUptoRow.domain false) (((Rows.OpenSpec.upto Rows.boxPointSpec).at G).post enc Try.prog Try.f4 false true false false) := by
  refine returnsInHanded_of_cond (C := Try.checked) (s := Rows.OpenSpec.upto Rows.boxPointSpec) (k := Rows.uptoSmall) rfl own started (by kernel_rfl) Try.func4
    (OpenSpec.witness (enc := enc) (C := Try.checked) (s := Rows.OpenSpec.upto Rows.boxPointSpec) (k := Rows.uptoSmall) rfl false ⟨#[], #[.slice none 0 0], []⟩ 8 (by kernel_rfl) (by kernel_rfl) (by kernel_rfl)
      (x := ([.nil], [], [])) (by kernel_rfl) rfl (by kernel_rfl)) ?_
  intro W base args ds gs before hval0 hW _ hk _
  have hval : ∀ (j : Nat) t v, Try.f4.params[j]? = some t → args[j]? = some v → Value.okWide Try.prog W .any base t v := hval0
  have hW' := hW
  obtain ⟨p, q, hA0, hV, rfl, hfz, hnd⟩ := hW
  have hA : DataW.TrodAll enc Try.prog W 0 (fun _ => true) true Try.f4.params.toList args.toList ds p := hA0
  rw [Try.params4] at hA hval
  obtain ⟨v0, d0, rfl, rfl, h0⟩ := trodAll_one hA
  obtain ⟨rfl, rfl⟩ := trodVars_none hV
  have h0k := h0
  obtain ⟨q0, l0⟩ := open_list (hval 0 23 v0 rfl rfl) h0
  have hn0 : q0.length ≤ 1048576 := Nat.le_trans (list_le l0 h0k) (Nat.le_trans (bulk_mem (by simp)) (bulk_said hk))
  clear hA0 hval0
  simp only [List.append_nil, List.nil_append] at hW'
  have hlt0 : ∀ x ∈ p, x.block < W.heap.size := fun x hx => by simpa using hW'.lt x hx
  refine (walk q0 v0 W l0 hn0).mono fun e W' ⟨he, hb⟩ => ?_
  subst he
  refine ⟨_, rfl, _, _, _, [], p, [], hW', ?_, ?_, ?_, hb.frame _, fun h => by cases h⟩
  · exact trodAll_mk1 (shut_bool Try.underlying4 true)
  · have hm := trodAll_mk1 (Below.trod laidOut (by kernel_rfl) (of_decide_eq_true (by kernel_rfl)) h0k hb hlt0)
    exact hm
  · rfl

theorem over : Rows.BoxPointUptoSaid :=
  OpenClaim.holds_of_cond 4 Try.f4 rfl rfl rfl rfl rfl rfl rfl ⟨rfl, rfl, rfl, rfl, rfl⟩ rfl rfl rfl rfl rfl (by kernel_rfl) Try.func4 (by kernel_rfl)
    (of_decide_eq_true (by kernel_rfl)) (by unfold Func.isWrapper; first | (rw [if_pos (by decide +kernel)]; kernel_rfl) | (rw [if_neg (by decide +kernel)]; exact ⟨rfl, rfl⟩))
    (fun os started H enc _ G => lifted os started H enc G)
end Go.Proofs.Ytmgabhphnafokaa.BPoint
namespace Go.Proofs.Ytmgabhphnafokaa
theorem boxPointUpto_holds : Rows.BoxPointUptoSaid := BPoint.over
#print axioms boxPointUpto_holds
end Go.Proofs.Ytmgabhphnafokaa
