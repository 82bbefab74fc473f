/-
  Proved: 'spanlaw4.SpanZero' returns true for every a: nothing added is nothing done; less itself 0 is in it; a meets itself in itself, and so its hull.
  No condition.
-/
import Derived.Test.YtfmjndipanlcoaaSpanAdd
import Derived.Test.YtfmjndipanlcoaaSpanHull
import Derived.Test.YtfmjndipanlcoaaMems
import Derived.Test.YtfmjndipanlcoaaRows
import Derived.ProofKit
import Derived.OpenShut
import Derived.Stop.Joined
import Derived.Lib.SmallJoins
namespace Go.Proofs.Ytfmjndipanlcoaa.Zero
set_option linter.unusedSimpArgs false
open Go.ChangeShapes Go.WideShapes Go.ChangeAt Go.RowKit

theorem chk0 : Um.chk 0 0 = 0 := by decide
theorem add_right {al ah : Int} (h : Um.chk al ah = 0) : Um.made (Um.addR al ah 0 0) al ah 0 0 = (al, ah, 0) := by
  rw [Um.made_good h chk0]
  obtain ⟨h1, h2, _⟩ := Um.chk_ok.1 h
  unfold Um.addR Um.fit
  rw [Int.add_zero, Int.add_zero, if_pos ⟨h1, h2⟩]
theorem add_wrong {al ah : Int} (h : ¬ Um.chk al ah = 0) : Um.made (Um.addR al ah 0 0) al ah 0 0 = (0, 0, Um.chk al ah) := Um.made_first h
theorem less_self {al ah : Int} (h : Um.chk al ah = 0) : Um.made (Um.lessR al ah al ah) al ah al ah = (0, 0, 4) ∨ Um.made (Um.lessR al ah al ah) al ah al ah = (al - ah, ah - al, 0) := by
  rw [Um.made_good h h]
  unfold Um.lessR
  rcases Um.fit_cases (al - ah) (ah - al) with e | ⟨e, _⟩
  · exact .inl e
  · exact .inr e
theorem meet_self {al ah : Int} (h : Um.chk al ah = 0) : Um.made (Um.meetR al ah al ah) al ah al ah = (al, ah, 0) := by
  rw [Um.made_good h h]
  obtain ⟨_, _, h3⟩ := Um.chk_ok.1 h
  rw [Um.meet_yes (by omega)]
  simp
theorem hull_self {al ah : Int} (h : Um.chk al ah = 0) : Um.made (Um.hullR al ah al ah) al ah al ah = (al, ah, 0) := by
  rw [Um.made_good h h]
  unfold Um.hullR
  simp

set_option maxHeartbeats 1000000 in
theorem walk_wrong (al ah : Int) (w : World) (h : ¬ Um.chk al ah = 0) :
    Calls Try.prog 3 #[.agg #[.int .i64 al, .int .i64 ah]] w fun e w' => e = .returned (.bool true) ∧ Below w.heap.size w w' := by
  have e1 := add_wrong h
  have k1 : (Um.chk al ah != 0) = true := by simpa using h
  have q1 := errG
  have q2 := errGn
  have q3 := errE
  have q4 := errN
  have hS := Sp.new w al ah
  clear h
  have hI : Below w.heap.size w w := Below.refl _ _
  go_enter Try.func3, Try.ntmps3
  go_wp2_with (first | (go_at_call 10; refine (add_any _ _ _ _ _).mono ?_; rintro e w1 ⟨rfl, hb⟩; have c1 := (hS.step hb).lo; have c2 := (hS.step hb).hi; have c3 := (hS.step hb).lt; replace hI := (hI.alloc (Nat.le_refl _) _).trans (hb.mono (by simp)); clear hb) | (go_at_call 11; refine (check_any _ _ _).mono ?_; rintro e w1 ⟨rfl, rfl⟩))
  go_returns
  exact ⟨rfl, by go_grown⟩

set_option maxHeartbeats 2000000 in
theorem walk_far (al ah : Int) (w : World) (h : Um.chk al ah = 0) (e2 : Um.made (Um.lessR al ah al ah) al ah al ah = (0, 0, 4)) :
    Calls Try.prog 3 #[.agg #[.int .i64 al, .int .i64 ah]] w fun e w' => e = .returned (.bool true) ∧ Below w.heap.size w w' := by
  have e1 := add_right h
  have e3 := meet_self h
  have e4 := hull_self h
  obtain ⟨m1, m2, m3⟩ := Um.chk_ok.1 h
  obtain ⟨l1, l2⟩ := (Um.may_iff al).1 m1
  obtain ⟨l3, l4⟩ := (Um.may_iff ah).1 m2
  have v0 := errV_none
  have v4 : errV 4 = .iface 48 (.int .i64 4) := errV_some (by decide)
  have hS := Sp.new w al ah
  have t1 : decide (al - ah ≤ 0) = true := by simp; omega
  have t2 : decide (0 ≤ ah - al) = true := by simp; omega
  have t3 : (al - ah == -(ah - al)) = true := by simp; omega
  clear h m1 m2
  have hI : Below w.heap.size w w := Below.refl _ _
  go_enter Try.func3, Try.ntmps3
  go_wp2_with (first | (go_at_call 10; refine (add_any _ _ _ _ _).mono ?_; rintro e w1 ⟨rfl, hb⟩; have sA := hS.step hb; have c1 := sA.lo; have c2 := sA.hi; have c3 := sA.lt; replace hI := (hI.alloc (Nat.le_refl _) _).trans (hb.mono (by simp)); have hz := hI.size; clear hb) | (go_at_call 12; refine (less_any _ _ _ _ _).mono ?_; rintro e w2 ⟨rfl, hb⟩; have sB := (sA.alloc _).step hb; have sX := (Sp.new _ _ _).step hb; have d1 := sB.lo; have d2 := sB.hi; have d3 := sB.lt; have d4 := sX.lo; have d5 := sX.hi; have d6 := sX.lt; replace hI := (hI.alloc hz _).trans (hb.mono (by simp; omega)); replace hz := hI.size; clear hb) | (go_at_call 13; refine (meet_any _ _ _ _ _).mono ?_; rintro e w3 ⟨rfl, hb⟩; have sC := (sB.alloc _).step hb; have sX3 := (sX.alloc _).step hb; have sY3 := (Sp.new _ _ _).step hb; have f1 := sC.lo; have f2 := sC.hi; have f3 := sC.lt; have f4 := sX3.lo; have f5 := sX3.hi; have f6 := sX3.lt; have f7 := sY3.lo; have f8 := sY3.hi; have f9 := sY3.lt; replace hI := (hI.alloc hz _).trans (hb.mono (by simp; omega)); replace hz := hI.size; clear hb) | (go_at_call 14; refine (hull_any _ _ _ _ _).mono ?_; rintro e w4 ⟨rfl, hb⟩; have sD := (sC.alloc _).step hb; have sX4 := (sX3.alloc _).step hb; have sY4 := (sY3.alloc _).step hb; have sM4 := (Sp.new _ _ _).step hb; have g1 := sD.lo; have g2 := sD.hi; have g3 := sD.lt; have g4 := sX4.lo; have g5 := sX4.hi; have g6 := sX4.lt; have g7 := sY4.lo; have g8 := sY4.hi; have g9 := sY4.lt; have i1 := sM4.lo; have i2 := sM4.hi; have i3 := sM4.lt; replace hI := (hI.alloc hz _).trans (hb.mono (by simp; omega)); replace hz := hI.size; clear hb))
  go_returns
  exact ⟨rfl, by go_grown⟩

set_option maxHeartbeats 2000000 in
theorem walk_near (al ah : Int) (w : World) (h : Um.chk al ah = 0) (e2 : Um.made (Um.lessR al ah al ah) al ah al ah = (al - ah, ah - al, 0)) :
    Calls Try.prog 3 #[.agg #[.int .i64 al, .int .i64 ah]] w fun e w' => e = .returned (.bool true) ∧ Below w.heap.size w w' := by
  have e1 := add_right h
  have e3 := meet_self h
  have e4 := hull_self h
  obtain ⟨m1, m2, m3⟩ := Um.chk_ok.1 h
  obtain ⟨l1, l2⟩ := (Um.may_iff al).1 m1
  obtain ⟨l3, l4⟩ := (Um.may_iff ah).1 m2
  have v0 := errV_none
  have v4 : errV 4 = .iface 48 (.int .i64 4) := errV_some (by decide)
  have hS := Sp.new w al ah
  have t1 : decide (al - ah ≤ 0) = true := by simp; omega
  have t2 : decide (0 ≤ ah - al) = true := by simp; omega
  have t3 : (al - ah == -(ah - al)) = true := by simp; omega
  clear h m1 m2
  have hI : Below w.heap.size w w := Below.refl _ _
  go_enter Try.func3, Try.ntmps3
  go_wp2_with (first | (go_at_call 10; refine (add_any _ _ _ _ _).mono ?_; rintro e w1 ⟨rfl, hb⟩; have sA := hS.step hb; have c1 := sA.lo; have c2 := sA.hi; have c3 := sA.lt; replace hI := (hI.alloc (Nat.le_refl _) _).trans (hb.mono (by simp)); have hz := hI.size; clear hb) | (go_at_call 12; refine (less_any _ _ _ _ _).mono ?_; rintro e w2 ⟨rfl, hb⟩; have sB := (sA.alloc _).step hb; have sX := (Sp.new _ _ _).step hb; have d1 := sB.lo; have d2 := sB.hi; have d3 := sB.lt; have d4 := sX.lo; have d5 := sX.hi; have d6 := sX.lt; replace hI := (hI.alloc hz _).trans (hb.mono (by simp; omega)); replace hz := hI.size; clear hb) | (go_at_call 13; refine (meet_any _ _ _ _ _).mono ?_; rintro e w3 ⟨rfl, hb⟩; have sC := (sB.alloc _).step hb; have sX3 := (sX.alloc _).step hb; have sY3 := (Sp.new _ _ _).step hb; have f1 := sC.lo; have f2 := sC.hi; have f3 := sC.lt; have f4 := sX3.lo; have f5 := sX3.hi; have f6 := sX3.lt; have f7 := sY3.lo; have f8 := sY3.hi; have f9 := sY3.lt; replace hI := (hI.alloc hz _).trans (hb.mono (by simp; omega)); replace hz := hI.size; clear hb) | (go_at_call 14; refine (hull_any _ _ _ _ _).mono ?_; rintro e w4 ⟨rfl, hb⟩; have sD := (sC.alloc _).step hb; have sX4 := (sX3.alloc _).step hb; have sY4 := (sY3.alloc _).step hb; have sM4 := (Sp.new _ _ _).step hb; have g1 := sD.lo; have g2 := sD.hi; have g3 := sD.lt; have g4 := sX4.lo; have g5 := sX4.hi; have g6 := sX4.lt; have g7 := sY4.lo; have g8 := sY4.hi; have g9 := sY4.lt; have i1 := sM4.lo; have i2 := sM4.hi; have i3 := sM4.lt; replace hI := (hI.alloc hz _).trans (hb.mono (by simp; omega)); replace hz := hI.size; clear hb))
  go_returns
  exact ⟨rfl, by go_grown⟩

theorem walk (al ah : Int) (w : World) :
    Calls Try.prog 3 #[.agg #[.int .i64 al, .int .i64 ah]] w fun e w' => e = .returned (.bool true) ∧ Below w.heap.size w w' := by
  by_cases h : Um.chk al ah = 0
  · rcases less_self h with e | e
    · exact walk_far al ah w h e
    · exact walk_near al ah w h e
  · exact walk_wrong al ah w h

theorem own : ownKnob Try.prog.godebug = none := by kernel_rfl
theorem cellsSpan : Try.prog.cellsOf 23 = 2 := by kernel_rfl

set_option maxRecDepth 100000 in
theorem lifted (os : Os) (started : os.Started) (H : Type) (enc : TypeId × Value → H) :
    ReturnsInHanded {} Try.checked os 3 .any (Rows.spanZeroSpec.pre6 enc Try.prog Try.f3 Rows.spanZeroRow.domain false) (Rows.spanZeroSpec.post enc Try.prog Try.f3 false true false false) := by
  refine returnsInHanded_of_change (C := Try.checked) own started (by kernel_rfl) Try.func3
    (ChangeSpec.witness6 (enc := enc) (C := Try.checked) false ⟨#[], #[.agg #[.int .i64 0, .int .i64 0]], []⟩ 8 (by kernel_rfl) (by kernel_rfl) (by kernel_rfl) (by kernel_rfl)) ?_
  intro W base args ds gs before hval0 hW _ _
  have hval : ∀ (j : Nat) t v, Try.f3.params[j]? = some t → args[j]? = some v → Value.okWide Try.prog W .any base t v := hval0
  have hW' := hW
  obtain ⟨p, q, hA0, hV, rfl, hfz, hnd⟩ := hW
  have hA : DataW.TrodAll enc Try.prog W 0 (fun _ => true) true Try.f3.params.toList args.toList ds p := hA0
  rw [Try.params3] at hA hval
  obtain ⟨v0, d0, rfl, rfl, h0⟩ := trodAll_one hA
  obtain ⟨rfl, rfl⟩ := trodVars_none hV
  obtain ⟨c0, c1, y0, y1, m, rfl, rfl, rfl, hy0, hy1⟩ := Go.Joins.open_agg2 Try.underlying23 (by kernel_rfl) cellsSpan (hval 0 23 v0 rfl rfl) h0
  obtain ⟨a, e0, rfl, wa⟩ := DataW.trod_int Try.underlying3 hy0
  obtain ⟨b, e1, rfl, wb⟩ := DataW.trod_int Try.underlying3 hy1
  simp at e0 e1
  subst e0 e1
  clear hA0 hval0
  simp only [List.append_nil] at hW'
  have structReads : ∀ (W' : World) (sp : Nat → Bool), DataW.Trod enc Try.prog W' 0 sp true 23 (.agg #[.int .i64 a, .int .i64 b]) (.agg [.lit (.int .i64 a), .lit (.int .i64 b)]) [] := fun W' sp =>
    Go.Joins.shut_agg2 (y0 := (.lit (.int .i64 a), [])) (y1 := (.lit (.int .i64 b), [])) Try.underlying23 (by kernel_rfl) cellsSpan ⟨1, by simp [DataW.trod, Try.underlying3, wa]⟩ ⟨1, by simp [DataW.trod, Try.underlying3, wb]⟩
  refine (walk a b W).mono fun e W' ⟨he, hb⟩ => ?_
  subst he
  refine ⟨_, rfl, _, _, _, [], [], [], hW', ?_, ?_, ?_, hb.frame _, fun h => by cases h⟩
  · exact trodAll_mk1 (shut_bool Try.underlying4 true)
  · exact trodAll_mk1 (structReads _ _)
  · rfl

theorem over : Rows.SpanZeroSaid :=
  OpenClaim.holds_of_wide 3 Try.f3 rfl rfl rfl rfl rfl rfl rfl ⟨rfl, rfl, rfl, rfl, rfl⟩ rfl rfl rfl rfl rfl (by kernel_rfl) Try.func3 (by kernel_rfl)
    (of_decide_eq_true (by kernel_rfl)) (by unfold Func.isWrapper; first | (rw [if_pos (by decide +kernel)]; kernel_rfl) | (rw [if_neg (by decide +kernel)]; exact ⟨rfl, rfl⟩))
    (fun os started H enc _ => lifted os started H enc)
end Go.Proofs.Ytfmjndipanlcoaa.Zero
namespace Go.Proofs.Ytfmjndipanlcoaa
theorem spanZero_holds : Rows.SpanZeroSaid := Zero.over
#print axioms spanZero_holds
end Go.Proofs.Ytfmjndipanlcoaa
