/-
  A list of terms among a law's arguments, opened; behind the call it reads as it did (Below.trod).
-/
import Derived.Test.YtmkdjaafkigemaaProg
import Derived.Test.YtmkdjaafkigemaaMems2
import Derived.ProofKit
import Derived.OpenShut
import Derived.Carry
import Derived.Deep.Slices
import Derived.ChangeSame
import Derived.Laws.IdiomArrays
namespace Go.Proofs.Ytmkdjaafkigemaa
set_option linter.unusedSimpArgs false
open Go.ChangeShapes Go.WideShapes Go.ChangeAt Go.RowKit

theorem cellsTerm : Try.prog.cellsOf 29 = 4 := by kernel_rfl
theorem cellsTimes : Try.prog.cellsOf 27 = 3 := by kernel_rfl
theorem cellsInt3 : Try.prog.cellsOf 3 = 1 := by kernel_rfl
theorem underTerm : ∃ f0 f1 : Field, Try.prog.underlying 29 = some (.struct #[f0, f1]) ∧ f0.offset = 0 ∧ f1.offset = 1 ∧ f0.type = 3 ∧ f1.type = 27 := ⟨_, _, Try.underlying29, rfl, rfl, rfl, rfl⟩
set_option maxRecDepth 100000 in
/-- One term, by its four cells. -/
theorem open_term {H : Type} {enc : TypeId × Value → H} {W : World} {base fuel : Nat} {sp : Nat → Bool} {held : Bool} {cs : List Value} {x : DataW H × List MemPlace}
    (h : DataW.trod enc Try.prog W base sp held fuel 29 cs = some x) : ∃ t : Um.Tm, cs = [.int .i64 t.1, .int .i64 t.2.1, .int .i64 t.2.2.1, .int .i64 t.2.2.2] := by
  obtain ⟨f0, f1, hu, o0, o1, e0, e1⟩ := underTerm
  obtain ⟨xs, n, _, _, hlen, hxl, hf⟩ := DataW.trod_struct hu h
  rw [cellsTerm] at hlen
  match xs, hxl, cs, hlen with
  | [y0, y1], _, [c0, c1, c2, c3], _ =>
    have g0 := hf 0 f0 rfl
    have g1 := hf 1 f1 rfl
    rw [o0, e0, cellsInt3] at g0
    rw [o1, e1, cellsTimes] at g1
    have g0' : DataW.trod enc Try.prog W base sp held n 3 [c0] = some y0 := g0
    have g1' : DataW.trod enc Try.prog W base sp held n 27 [c1, c2, c3] = some y1 := g1
    obtain ⟨z0, z1, z2, m, _, h0, h1, h2⟩ := trod_array3 Try.underlying27 cellsInt3 g1'
    obtain ⟨a0, q0, _, _⟩ := DataW.trod_int Try.underlying3 g0'
    obtain ⟨a1, q1, _, _⟩ := DataW.trod_int Try.underlying3 h0
    obtain ⟨a2, q2, _, _⟩ := DataW.trod_int Try.underlying3 h1
    obtain ⟨a3, q3, _, _⟩ := DataW.trod_int Try.underlying3 h2
    simp only [List.cons.injEq, and_true] at q0 q1 q2 q3
    exact ⟨(a0, a1, a2, a3), by rw [q0, q1, q2, q3]⟩
theorem tms_at {W : World} {a : Addr} {m : Nat} {f : Nat → Um.Tm} (h : ∀ i, i < m → W.cell? (a.add (i * 4)) = some (.int .i64 (f i).1) ∧ W.cell? (a.add (i * 4 + 1)) = some (.int .i64 (f i).2.1) ∧ W.cell? (a.add (i * 4 + 2)) = some (.int .i64 (f i).2.2.1) ∧ W.cell? (a.add (i * 4 + 3)) = some (.int .i64 (f i).2.2.2)) (hp : 0 < m) :
    ∃ b off, a = ⟨b, off, none⟩ ∧ b < W.heap.size ∧ ∀ j, j < m → TmAt W b (off + j * 4) (f j) := by
  obtain ⟨b, off, spot⟩ := a
  have h0 := (h 0 hp).1
  have hspot : spot = none := by simpa [Addr.add] using World.cell?_spot h0
  subst hspot
  refine ⟨b, off, rfl, ?_, fun j hj => ?_⟩
  · rw [add_plain] at h0
    unfold World.cell? at h0
    rcases Nat.lt_or_ge b W.heap.size with h2 | h2
    · exact h2
    · rw [Array.getElem?_eq_none h2] at h0; cases h0
  · obtain ⟨a0, a1, a2, a3⟩ := h j hj
    rw [add_plain] at a0 a1 a2 a3
    exact ⟨a0, a1, a2, a3⟩
set_option maxRecDepth 100000 in
/-- A slice of terms, by its cell. -/
theorem open_terms' {H : Type} {enc : TypeId × Value → H} {W : World} {base fuel : Nat} {sp : Nat → Bool} {held : Bool} {v : Value} {x : DataW H × List MemPlace}
    (hf : DataW.trod enc Try.prog W base sp held fuel 30 [v] = some x) : ∃ f : List Um.Tm, Lt W.heap.size W v f := by
  rcases Go.Deep.open_slice Try.underlying30 hf with ⟨hcs, _⟩ | ⟨a, len, cap, m, n, D, Pl, hcs, _, hl, _, hm, _, hall⟩
  · simp only [List.cons.injEq, and_true] at hcs
    subst hcs
    exact ⟨[], Lt.nil _ _⟩
  · simp only [List.cons.injEq, and_true] at hcs
    subst hcs
    have hlm : len ≤ m := by rw [hm]; split <;> omega
    rw [cellsTerm] at hall
    have each : ∀ i, i < m → ∃ t : Um.Tm, W.cell? (a.add (i * 4)) = some (.int .i64 t.1) ∧ W.cell? (a.add (i * 4 + 1)) = some (.int .i64 t.2.1) ∧ W.cell? (a.add (i * 4 + 2)) = some (.int .i64 t.2.2.1) ∧ W.cell? (a.add (i * 4 + 3)) = some (.int .i64 t.2.2.2) := by
      intro i hi
      obtain ⟨cs', h1, h2⟩ := hall i hi
      obtain ⟨_, hlen, hcell⟩ := World.cells?_some h1
      obtain ⟨t, rfl⟩ := open_term h2
      have e0 := hcell 0 (by omega)
      have e1 := hcell 1 (by omega)
      have e2 := hcell 2 (by omega)
      have e3 := hcell 3 (by omega)
      rw [Go.Deep.add_add] at e0 e1 e2 e3
      exact ⟨t, by simpa using e0, by simpa using e1, by simpa using e2, by simpa using e3⟩
    obtain ⟨g, hg⟩ := Go.Deep.choose_lt each
    refine ⟨(List.range len).map g, some a, cap, by simp, by simpa using hl, ?_⟩
    by_cases h0 : len = 0
    · subst h0; exact .inl (by simp)
    · obtain ⟨b, off, rfl, hlt, hc⟩ := tms_at hg (by omega)
      refine .inr ⟨b, off, rfl, hlt, fun j hj => ?_⟩
      rw [List.length_map, List.length_range] at hj
      have e : Um.tm ((List.range len).map g) j = g j := by unfold Um.tm; simp [hj]
      rw [e]
      exact hc j (by omega)
set_option maxRecDepth 100000 in
theorem open_terms {H : Type} {enc : TypeId × Value → H} {W : World} {base r0 : Nat} {sp : Nat → Bool} {held : Bool} {r : Reach} {v : Value} {d : DataW H} {ps : List MemPlace}
    (hv : Value.okWide Try.prog W r r0 30 v) (h : DataW.Trod enc Try.prog W base sp held 30 v d ps) : ∃ f : List Um.Tm, Lt W.heap.size W v f := by
  obtain ⟨a0, len, cap, rfl⟩ := okWide_slice Try.underlying30 hv
  obtain ⟨fuel, hf⟩ := h
  exact open_terms' hf
end Go.Proofs.Ytmkdjaafkigemaa
