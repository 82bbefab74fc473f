/-
  A system among a law's arguments, opened: its polynomials, its pushes; behind the call it reads as it did (Below.trod).
-/
import Derived.Test.YtmkdjaafkigemaaShutTerms
import Derived.Test.YtmkdjaafkigemaaShutSpans
import Derived.Lib.SmallJoins
namespace Go.Proofs.Ytmkdjaafkigemaa
set_option linter.unusedSimpArgs false
open Go.ChangeShapes Go.WideShapes Go.ChangeAt Go.RowKit

theorem cellsTerms : Try.prog.cellsOf 30 = 1 := by kernel_rfl
theorem cellsSystem : Try.prog.cellsOf 25 = 2 := by kernel_rfl
set_option maxRecDepth 100000 in
theorem open_forms' {H : Type} {enc : TypeId × Value → H} {W : World} {base fuel : Nat} {sp : Nat → Bool} {held : Bool} {v : Value} {x : DataW H × List MemPlace}
    (hf : DataW.trod enc Try.prog W base sp held fuel 22 [v] = some x) : ∃ s : List (List Um.Tm), Lf W.heap.size W v s := by
  rcases Go.Deep.open_slice1 Try.underlying22 cellsTerms hf with ⟨hcs, _⟩ | ⟨a, len, cap, m, n, V, D, Pl, hcs, _, hl, _, hm, _, hall⟩
  · simp only [List.cons.injEq, and_true] at hcs
    subst hcs
    exact ⟨[], none, 0, rfl, Nat.le_refl _, .inl rfl⟩
  · simp only [List.cons.injEq, and_true] at hcs
    subst hcs
    have hlm : len ≤ m := by rw [hm]; split <;> omega
    obtain ⟨g, hg⟩ := Go.Deep.choose_lt (α := List Um.Tm) (p := fun i f => W.cell? (a.add i) = some (V i) ∧ Lt W.heap.size W (V i) f) (fun i (hi : i < m) => by
      obtain ⟨h1, h2⟩ := hall i hi
      obtain ⟨f, hf'⟩ := open_terms' h2
      exact ⟨f, h1, hf'⟩)
    refine ⟨(List.range len).map g, some a, cap, by simp, by simpa using hl, ?_⟩
    by_cases h0 : len = 0
    · subst h0; exact .inl (by simp)
    · obtain ⟨b, off, spot⟩ := a
      have h1 := (hg 0 (by omega)).1
      have hspot : spot = none := by simpa [Addr.add] using World.cell?_spot h1
      subst hspot
      rw [add_plain] at h1
      refine .inr ⟨b, off, rfl, ?_, fun j hj => ?_⟩
      · unfold World.cell? at h1
        rcases Nat.lt_or_ge b W.heap.size with h2 | h2
        · exact h2
        · rw [Array.getElem?_eq_none h2] at h1; cases h1
      · rw [List.length_map, List.length_range] at hj
        have e : Um.nx ((List.range len).map g) j = g j := by unfold Um.nx; simp [hj]
        rw [e]
        obtain ⟨q1, q2⟩ := hg j (by omega)
        rw [add_plain] at q1
        exact ⟨V j, q1, q2⟩
set_option maxRecDepth 100000 in
theorem open_spans' {H : Type} {enc : TypeId × Value → H} {W : World} {base fuel : Nat} {sp : Nat → Bool} {held : Bool} {v : Value} {x : DataW H × List MemPlace}
    (hf : DataW.trod enc Try.prog W base sp held fuel 23 [v] = some x) : ∃ q : List (Int × Int), Ls W.heap.size W v q := by
  rcases Go.Deep.open_slice_pairs Try.underlying23 Try.underlying32 cellsSpan2 rfl rfl cellsInt2 cellsInt2 hf with ⟨hcs, _⟩ | ⟨a, len, cap, m, n, V0, V1, D0, D1, P0, P1, hcs, _, hl, _, hm, _, hall⟩
  · simp only [List.cons.injEq, and_true] at hcs
    subst hcs
    exact ⟨[], Ls.nil _ _⟩
  · simp only [List.cons.injEq, and_true] at hcs
    subst hcs
    have hlm : len ≤ m := by rw [hm]; split <;> omega
    refine ⟨(List.range len).map fun i => (intOf (V0 i), intOf (V1 i)), some a, cap, by simp, by simpa using hl, ?_⟩
    by_cases h0 : len = 0
    · subst h0; exact .inl (by simp)
    · obtain ⟨b, off, rfl, hc⟩ := pairs_at (fun i hi => ⟨(hall i hi).1, (hall i hi).2.1⟩) (show 0 < m by omega)
      refine .inr ⟨b, off, rfl, ?_, ?_⟩
      · have := (hc 0 (by omega)).1
        unfold World.cell? at this
        rcases Nat.lt_or_ge b W.heap.size with h2 | h2
        · exact h2
        · rw [Array.getElem?_eq_none h2] at this; cases this
      · intro j hj
        rw [List.length_map, List.length_range] at hj
        obtain ⟨c0, c1⟩ := hc j (by omega)
        obtain ⟨_, _, t0, t1⟩ := hall j (by omega)
        obtain ⟨n0, e0, _, _⟩ := DataW.trod_int Try.underlying3 t0
        obtain ⟨n1, e1, _, _⟩ := DataW.trod_int Try.underlying3 t1
        simp only [List.cons.injEq, and_true] at e0 e1
        rw [c0, c1, e0, e1]
        simp [hj, e0, e1, intOf]
set_option maxRecDepth 100000 in
/-- A system: the value written out, its polynomials and its pushes in memory. -/
theorem open_system {H : Type} {enc : TypeId × Value → H} {W : World} {base r0 : Nat} {sp : Nat → Bool} {held : Bool} {r : Reach} {v : Value} {d : DataW H} {ps : List MemPlace}
    (hv : Value.okWide Try.prog W r r0 25 v) (h : DataW.Trod enc Try.prog W base sp held 25 v d ps) :
    ∃ (v0 v1 : Value) (s : List (List Um.Tm)) (p : List (Int × Int)), v = .agg #[v0, v1] ∧ Lf W.heap.size W v0 s ∧ Ls W.heap.size W v1 p := by
  obtain ⟨v0, v1, y0, y1, n, rfl, _, _, h0, h1⟩ := Go.Joins.open_agg2 Try.underlying25 (by kernel_rfl) cellsSystem hv h
  obtain ⟨s, hs⟩ := open_forms' h0
  obtain ⟨p, hp⟩ := open_spans' h1
  exact ⟨v0, v1, s, p, rfl, hs, hp⟩
end Go.Proofs.Ytmkdjaafkigemaa
