/-
  A list of spans among a law's arguments, opened; behind the call it reads as it did (Below.trod).
-/
import Derived.Test.YtmkdjaafkigemaaProg
import Derived.Test.YtmkdjaafkigemaaMems
import Derived.ProofKit
import Derived.OpenShut
import Derived.Carry
import Derived.Deep.SlicePairs
namespace Go.Proofs.Ytmkdjaafkigemaa
set_option linter.unusedSimpArgs false
open Go.ChangeShapes Go.WideShapes Go.ChangeAt Go.RowKit

theorem cellsSpan2 : Try.prog.cellsOf 32 = 2 := by kernel_rfl
theorem cellsInt2 : Try.prog.cellsOf 3 = 1 := by kernel_rfl
theorem pairs_at {w : World} {a : Addr} {m : Nat} {V0 V1 : Nat → Value} (h : ∀ i, i < m → w.cell? (a.add (i * 2)) = some (V0 i) ∧ w.cell? (a.add (i * 2 + 1)) = some (V1 i)) (hp : 0 < m) :
    ∃ b off, a = ⟨b, off, none⟩ ∧ ∀ j, j < m → w.cell? ⟨b, off + j * 2, none⟩ = some (V0 j) ∧ w.cell? ⟨b, off + j * 2 + 1, none⟩ = some (V1 j) := by
  obtain ⟨b, off, spot⟩ := a
  have hspot : spot = none := by simpa [Addr.add] using World.cell?_spot (h 0 hp).1
  subst hspot
  exact ⟨b, off, rfl, fun j hj => by
    have := h j hj
    rw [Go.WideShapes.add_plain, Go.WideShapes.add_plain] at this
    exact this⟩
set_option maxRecDepth 100000 in
theorem open_spans {H : Type} {enc : TypeId × Value → H} {W : World} {base r0 : Nat} {sp : Nat → Bool} {held : Bool} {r : Reach} {v : Value} {d : DataW H} {ps : List MemPlace}
    (hv : Value.okWide Try.prog W r r0 23 v) (h : DataW.Trod enc Try.prog W base sp held 23 v d ps) : ∃ q : List (Int × Int), Ls W.heap.size W v q := by
  obtain ⟨a0, len, cap, rfl⟩ := okWide_slice Try.underlying23 hv
  obtain ⟨fuel, hf⟩ := h
  rcases Go.Deep.open_slice_pairs Try.underlying23 Try.underlying32 cellsSpan2 rfl rfl cellsInt2 cellsInt2 hf with ⟨hcs, _⟩ | ⟨a, len', cap', m, n, V0, V1, D0, D1, P0, P1, hcs, _, hl, _, hm, _, hall⟩
  · have hcs' : [Value.slice a0 len cap] = [Value.slice none 0 0] := hcs
    simp only [List.cons.injEq, Value.slice.injEq, and_true] at hcs'
    obtain ⟨rfl, rfl, rfl⟩ := hcs'
    exact ⟨[], Ls.nil _ _⟩
  · have hcs' : [Value.slice a0 len cap] = [Value.slice (some a) len' cap'] := hcs
    simp only [List.cons.injEq, Value.slice.injEq, and_true] at hcs'
    obtain ⟨rfl, rfl, rfl⟩ := hcs'
    have hlm : len ≤ m := by rw [hm]; split <;> omega
    refine ⟨(List.range len).map fun i => (intOf (V0 i), intOf (V1 i)), some a, cap, by simp, by simpa using hl, ?_⟩
    by_cases h0 : len = 0
    · subst h0; exact .inl (by simp)
    · obtain ⟨b, off, rfl, hc⟩ := pairs_at (fun i hi => ⟨(hall i hi).1, (hall i hi).2.1⟩) (show 0 < m by omega)
      refine .inr ⟨b, off, rfl, ?_, ?_⟩
      · have := (hc 0 (by omega)).1
        unfold World.cell? at this
        rcases Nat.lt_or_ge b W.heap.size with h2 | h2
        · exact h2
        · rw [Array.getElem?_eq_none h2] at this; cases this
      · intro j hj
        rw [List.length_map, List.length_range] at hj
        obtain ⟨c0, c1⟩ := hc j (by omega)
        obtain ⟨_, _, t0, t1⟩ := hall j (by omega)
        obtain ⟨n0, e0, _, _⟩ := DataW.trod_int Try.underlying3 t0
        obtain ⟨n1, e1, _, _⟩ := DataW.trod_int Try.underlying3 t1
        simp only [List.cons.injEq, and_true] at e0 e1
        rw [c0, c1, e0, e1]
        simp [hj, e0, e1, intOf]
end Go.Proofs.Ytmkdjaafkigemaa
