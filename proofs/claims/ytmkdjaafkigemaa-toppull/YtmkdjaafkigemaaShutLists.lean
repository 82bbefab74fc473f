/-
  A list of lists of ints among a law's arguments, opened; behind the call it reads as it did (Below.trod).
-/
import Derived.Test.YtmkdjaafkigemaaShutList
import Derived.Test.YtmkdjaafkigemaaMems2
import Derived.Deep.Slices
namespace Go.Proofs.Ytmkdjaafkigemaa
set_option linter.unusedSimpArgs false
open Go.ChangeShapes Go.WideShapes Go.ChangeAt Go.RowKit

theorem cellsInts : Try.prog.cellsOf 26 = 1 := by kernel_rfl
set_option maxRecDepth 100000 in
theorem open_list' {H : Type} {enc : TypeId × Value → H} {W : World} {base fuel : Nat} {sp : Nat → Bool} {held : Bool} {v : Value} {x : DataW H × List MemPlace}
    (hf : DataW.trod enc Try.prog W base sp held fuel 26 [v] = some x) : ∃ q : List Int, Li W.heap.size W v q := by
  rcases open_ints Try.underlying26 Try.underlying3 cellsInt hf with ⟨hcs, _⟩ | ⟨a, len, cap, zs, hcs, _, hl, _, hz, _, hcell, _⟩
  · simp only [List.cons.injEq, and_true] at hcs
    subst hcs
    exact ⟨[], Li.nil _ _⟩
  · simp only [List.cons.injEq, and_true] at hcs
    subst hcs
    have hlz : len ≤ zs.length := by rw [hz]; split <;> omega
    have hln : (zs.take len).length = len := by rw [List.length_take]; omega
    refine ⟨zs.take len, some a, cap, by rw [hln], ?_⟩
    by_cases h0 : len = 0
    · subst h0; exact .inl (by simp)
    · obtain ⟨b, off, rfl, hc⟩ := ints_at hcell (by omega)
      refine .inr ⟨b, off, rfl, ?_, ?_⟩
      · have := hc 0 (by omega)
        unfold World.cell? at this
        rcases Nat.lt_or_ge b W.heap.size with h2 | h2
        · exact h2
        · rw [Array.getElem?_eq_none h2] at this; cases this
      · intro j hj
        rw [hln] at hj
        rw [hc j (by omega), List.getElem?_take_of_lt hj, List.getD_eq_getElem?_getD]
set_option maxRecDepth 100000 in
theorem open_lists {H : Type} {enc : TypeId × Value → H} {W : World} {base r0 : Nat} {sp : Nat → Bool} {held : Bool} {r : Reach} {v : Value} {d : DataW H} {ps : List MemPlace}
    (hv : Value.okWide Try.prog W r r0 49 v) (h : DataW.Trod enc Try.prog W base sp held 49 v d ps) : ∃ l : List (List Int), Ll W.heap.size W v l := by
  obtain ⟨a0, len0, cap0, rfl⟩ := okWide_slice Try.underlying49 hv
  obtain ⟨fuel, hf⟩ := h
  rcases Go.Deep.open_slice1 Try.underlying49 cellsInts hf with ⟨hcs, _⟩ | ⟨a, len, cap, m, n, V, D, Pl, hcs, _, hl, _, hm, _, hall⟩
  · have hcs' : [Value.slice a0 len0 cap0] = [Value.slice none 0 0] := hcs
    simp only [List.cons.injEq, Value.slice.injEq, and_true] at hcs'
    obtain ⟨rfl, rfl, rfl⟩ := hcs'
    exact ⟨[], Ll.nil _ _⟩
  · have hcs' : [Value.slice a0 len0 cap0] = [Value.slice (some a) len cap] := hcs
    simp only [List.cons.injEq, Value.slice.injEq, and_true] at hcs'
    obtain ⟨rfl, rfl, rfl⟩ := hcs'
    have hlm : len0 ≤ m := by rw [hm]; split <;> omega
    obtain ⟨g, hg⟩ := Go.Deep.choose_lt (α := List Int) (p := fun i f => W.cell? (a.add i) = some (V i) ∧ Li W.heap.size W (V i) f) (fun i (hi : i < m) => by
      obtain ⟨h1, h2⟩ := hall i hi
      obtain ⟨f, hf'⟩ := open_list' h2
      exact ⟨f, h1, hf'⟩)
    refine ⟨(List.range len0).map g, some a, cap0, by simp, by simpa using hl, ?_⟩
    by_cases h0 : len0 = 0
    · subst h0; exact .inl (by simp)
    · obtain ⟨b, off, spot⟩ := a
      have h1 := (hg 0 (by omega)).1
      have hspot : spot = none := by simpa [Addr.add] using World.cell?_spot h1
      subst hspot
      rw [add_plain] at h1
      refine .inr ⟨b, off, rfl, ?_, fun j hj => ?_⟩
      · unfold World.cell? at h1
        rcases Nat.lt_or_ge b W.heap.size with h2 | h2
        · exact h2
        · rw [Array.getElem?_eq_none h2] at h1; cases h1
      · rw [List.length_map, List.length_range] at hj
        have e : ((List.range len0).map g)[j]?.getD [] = g j := by simp [hj]
        rw [e]
        obtain ⟨q1, q2⟩ := hg j (by omega)
        rw [add_plain] at q1
        exact ⟨V j, q1, q2⟩
end Go.Proofs.Ytmkdjaafkigemaa
