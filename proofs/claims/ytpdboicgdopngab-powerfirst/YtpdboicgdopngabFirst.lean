/-
  Proved: 'spanlaw4.PowerFirst' returns true for every a: once with itself a span is itself, no times it is from One to One; where that is refused the span is not right.
  No condition.
-/
import Derived.Test.YtpdboicgdopngabPowerOf
import Derived.Test.YtpdboicgdopngabMem
import Derived.Test.YtpdboicgdopngabRows
import Derived.ProofKit
import Derived.OpenShut
import Derived.Stop.Joined
import Derived.Lib.SmallJoins
namespace Go.Proofs.Ytpdboicgdopngab.First
set_option linter.unusedSimpArgs false
open Go.ChangeShapes Go.WideShapes Go.ChangeAt Go.RowKit

theorem of_wrong {lo hi : Int} (n : Int) (h : ¬ Um.chk lo hi = 0) : Um.ofR lo hi n = (0, 0, Um.chk lo hi) := by unfold Um.ofR; rw [if_neg h]
theorem of_one {lo hi : Int} (h : Um.chk lo hi = 0) : Um.ofR lo hi 1 = (lo, hi, 0) := by
  obtain ⟨h1, h2, _⟩ := Um.chk_ok.1 h
  unfold Um.ofR; rw [if_pos h, if_neg (by decide)]
  exact Um.pow_once h1 h2
theorem of_none {lo hi : Int} (h : Um.chk lo hi = 0) : Um.ofR lo hi 0 = (1000, 1000, 0) := by
  unfold Um.ofR; rw [if_pos h, if_neg (by decide)]
  exact Um.pow_zero lo hi

set_option maxHeartbeats 2000000 in
theorem walk_wrong (al ah : Int) (w : World) (h : ¬ Um.chk al ah = 0) :
    Calls Try.prog 5 #[.agg #[.int .i64 al, .int .i64 ah]] w fun e w' => e = .returned (.bool true) ∧ Below w.heap.size w w' := by
  have e1 := of_wrong 1 h
  have e2 := of_wrong 0 h
  have k1 : (Um.chk al ah != 0) = true := by simpa using h
  have q1 := errG
  have q2 := errGn
  have q3 := errE
  have q4 := errN
  have hS := Sp.new w al ah
  have hI : Below w.heap.size w w := Below.refl _ _
  clear h
  go_enter Try.func5, Try.ntmps5
  go_wp2_with (first | (go_at_call 11; refine (of_any _ _ _ _).mono ?_; rintro e w2 ⟨rfl, hb⟩; have sB := (sA.alloc _).step hb; have sX := (Sp.new _ _ _).step hb; have d1 := sB.lo; have d2 := sB.hi; have d3 := sB.lt; have d4 := sX.lo; have d5 := sX.hi; have d6 := sX.lt; replace hI := (hI.alloc hz _).trans (hb.mono (by simp; omega)); have hz2 := hI.size; clear hb) | (go_at_call 11; refine (of_any _ _ _ _).mono ?_; rintro e w1 ⟨rfl, hb⟩; have sA := hS.step hb; have c1 := sA.lo; have c2 := sA.hi; have c3 := sA.lt; replace hI := (hI.alloc (Nat.le_refl _) _).trans (hb.mono (by simp)); have hz := hI.size; clear hb) | (go_at_call 7; refine (check_any _ _ _).mono ?_; rintro e w1 ⟨rfl, rfl⟩))
  go_returns
  exact ⟨rfl, by go_grown⟩

set_option maxHeartbeats 2000000 in
theorem walk_right (al ah : Int) (w : World) (h : Um.chk al ah = 0) :
    Calls Try.prog 5 #[.agg #[.int .i64 al, .int .i64 ah]] w fun e w' => e = .returned (.bool true) ∧ Below w.heap.size w w' := by
  have e1 := of_one h
  have e2 := of_none h
  have v0 := errV_none
  have hS := Sp.new w al ah
  have hI : Below w.heap.size w w := Below.refl _ _
  clear h
  go_enter Try.func5, Try.ntmps5
  go_wp2_with (first | (go_at_call 11; refine (of_any _ _ _ _).mono ?_; rintro e w2 ⟨rfl, hb⟩; have sB := (sA.alloc _).step hb; have sX := (Sp.new _ _ _).step hb; have d1 := sB.lo; have d2 := sB.hi; have d3 := sB.lt; have d4 := sX.lo; have d5 := sX.hi; have d6 := sX.lt; replace hI := (hI.alloc hz _).trans (hb.mono (by simp; omega)); have hz2 := hI.size; clear hb) | (go_at_call 11; refine (of_any _ _ _ _).mono ?_; rintro e w1 ⟨rfl, hb⟩; have sA := hS.step hb; have c1 := sA.lo; have c2 := sA.hi; have c3 := sA.lt; replace hI := (hI.alloc (Nat.le_refl _) _).trans (hb.mono (by simp)); have hz := hI.size; clear hb) | (go_at_call 7; refine (check_any _ _ _).mono ?_; rintro e w1 ⟨rfl, rfl⟩))
  go_returns
  exact ⟨rfl, by go_grown⟩

theorem walk (al ah : Int) (w : World) :
    Calls Try.prog 5 #[.agg #[.int .i64 al, .int .i64 ah]] w fun e w' => e = .returned (.bool true) ∧ Below w.heap.size w w' := by
  by_cases h : Um.chk al ah = 0
  · exact walk_right al ah w h
  · exact walk_wrong al ah w h

theorem own : ownKnob Try.prog.godebug = none := by kernel_rfl
theorem cellsSpan : Try.prog.cellsOf 23 = 2 := by kernel_rfl

set_option maxRecDepth 100000 in
theorem lifted (os : Os) (started : os.Started) (H : Type) (enc : TypeId × Value → H) :
    ReturnsInHanded {} Try.checked os 5 .any (Rows.powerFirstSpec.pre6 enc Try.prog Try.f5 Rows.powerFirstRow.domain false) (Rows.powerFirstSpec.post enc Try.prog Try.f5 false true false false) := by
  refine returnsInHanded_of_change (C := Try.checked) own started (by kernel_rfl) Try.func5
    (ChangeSpec.witness6 (enc := enc) (C := Try.checked) false ⟨#[], #[.agg #[.int .i64 0, .int .i64 0]], []⟩ 8 (by kernel_rfl) (by kernel_rfl) (by kernel_rfl) (by kernel_rfl)) ?_
  intro W base args ds gs before hval0 hW _ _
  have hval : ∀ (j : Nat) t v, Try.f5.params[j]? = some t → args[j]? = some v → Value.okWide Try.prog W .any base t v := hval0
  have hW' := hW
  obtain ⟨p, q, hA0, hV, rfl, hfz, hnd⟩ := hW
  have hA : DataW.TrodAll enc Try.prog W 0 (fun _ => true) true Try.f5.params.toList args.toList ds p := hA0
  rw [Try.params5] at hA hval
  obtain ⟨v0, d0, rfl, rfl, h0⟩ := trodAll_one hA
  obtain ⟨rfl, rfl⟩ := trodVars_none hV
  obtain ⟨c0, c1, y0, y1, m, rfl, rfl, rfl, hy0, hy1⟩ := Go.Joins.open_agg2 Try.underlying23 (by kernel_rfl) cellsSpan (hval 0 23 v0 rfl rfl) h0
  obtain ⟨a, e0, rfl, wa⟩ := DataW.trod_int Try.underlying3 hy0
  obtain ⟨b, e1, rfl, wb⟩ := DataW.trod_int Try.underlying3 hy1
  simp at e0 e1
  subst e0 e1
  clear hA0 hval0
  simp only [List.append_nil] at hW'
  have structReads : ∀ (W' : World) (sp : Nat → Bool), DataW.Trod enc Try.prog W' 0 sp true 23 (.agg #[.int .i64 a, .int .i64 b]) (.agg [.lit (.int .i64 a), .lit (.int .i64 b)]) [] := fun W' sp =>
    Go.Joins.shut_agg2 (y0 := (.lit (.int .i64 a), [])) (y1 := (.lit (.int .i64 b), [])) Try.underlying23 (by kernel_rfl) cellsSpan ⟨1, by simp [DataW.trod, Try.underlying3, wa]⟩ ⟨1, by simp [DataW.trod, Try.underlying3, wb]⟩
  refine (walk a b W).mono fun e W' ⟨he, hb⟩ => ?_
  subst he
  refine ⟨_, rfl, _, _, _, [], [], [], hW', ?_, ?_, ?_, hb.frame _, fun h => by cases h⟩
  · exact trodAll_mk1 (shut_bool Try.underlying4 true)
  · exact trodAll_mk1 (structReads _ _)
  · rfl

theorem over : Rows.PowerFirstSaid :=
  OpenClaim.holds_of_wide 5 Try.f5 rfl rfl rfl rfl rfl rfl rfl ⟨rfl, rfl, rfl, rfl, rfl⟩ rfl rfl rfl rfl rfl (by kernel_rfl) Try.func5 (by kernel_rfl)
    (of_decide_eq_true (by kernel_rfl)) (by unfold Func.isWrapper; first | (rw [if_pos (by decide +kernel)]; kernel_rfl) | (rw [if_neg (by decide +kernel)]; exact ⟨rfl, rfl⟩))
    (fun os started H enc _ => lifted os started H enc)
end Go.Proofs.Ytpdboicgdopngab.First
namespace Go.Proofs.Ytpdboicgdopngab
theorem powerFirst_holds : Rows.PowerFirstSaid := First.over
#print axioms powerFirst_holds
end Go.Proofs.Ytpdboicgdopngab
