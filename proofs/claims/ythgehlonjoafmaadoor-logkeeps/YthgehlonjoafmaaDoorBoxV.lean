/-
  What package box answers: Halve at every argument; slices.Clone of a right box.
-/
import Derived.Test.YthgehlonjoafmaaDoorBoxC
import Derived.Test.YthgehlonjoafmaaDoorPower
import Derived.Test.YthgehlonjoafmaaDoorMems
import Derived.Lib.SliceRun
namespace Go.Proofs.YthgehlonjoafmaaDoor
set_option linter.unusedSimpArgs false
open Go.RowKit

theorem info_clone : (Tryd.prog.info? 28).map (fun i => (i.zero, i.size, i.bytes)) = some (some (.agg #[.int .i64 0, .int .i64 0]), 2, 16) := by kernel_rfl
theorem cellsOf_one : ∀ (l : List (Int × Int)), ∀ u ∈ cellsOf l, u.oneCell' = true
  | [], u, h => by cases h
  | s :: l, u, h => by
    have h' : u ∈ .int .i64 s.1 :: .int .i64 s.2 :: cellsOf l := h
    rcases List.mem_cons.1 h' with rfl | h2
    · rfl
    · rcases List.mem_cons.1 h2 with rfl | h3
      · rfl
      · exact cellsOf_one l u h3
theorem ls_cells {w : World} {b off : Nat} {q : List (Int × Int)} (h : LsAt w b off q) : ∀ j u, (cellsOf q)[j]? = some u → w.cell? ((⟨b, off, none⟩ : Addr).add j) = some u := by
  intro j u hu
  have hj : j < q.length * 2 := by
    have := (List.getElem?_eq_some_iff.1 hu).1
    rwa [cellsOf_length] at this
  rw [Go.WideShapes.add_plain]
  rcases Nat.mod_two_eq_zero_or_one j with e | e
  · have hi : j / 2 < q.length := by omega
    have := cellsOf_lo q (j / 2) hi
    rw [show j / 2 * 2 = j by omega, hu] at this
    rw [this, ← (h.2 (j / 2) hi).1, show off + j / 2 * 2 = off + j by omega]
  · have hi : j / 2 < q.length := by omega
    have := cellsOf_hi q (j / 2) hi
    rw [show j / 2 * 2 + 1 = j by omega, hu] at this
    rw [this, ← (h.2 (j / 2) hi).2, show off + j / 2 * 2 + 1 = off + j by omega]
theorem cellsOf_setLo : ∀ (l : List (Int × Int)) (j : Nat) (a : Int), (cellsOf l).set (j * 2) (.int .i64 a) = cellsOf (l.set j (a, (Um.sd l j).2))
  | [], _, _ => rfl
  | s :: l, 0, _ => rfl
  | s :: l, j + 1, a => by
    have i := cellsOf_setLo l j a
    show (.int .i64 s.1 :: .int .i64 s.2 :: cellsOf l).set ((j + 1) * 2) _ = .int .i64 s.1 :: .int .i64 s.2 :: cellsOf (l.set j (a, (Um.sd (s :: l) (j + 1)).2))
    rw [show (j + 1) * 2 = j * 2 + 1 + 1 by omega]
    simp only [List.set_cons_succ]
    rw [i]
    rfl
theorem cellsOf_setHi : ∀ (l : List (Int × Int)) (j : Nat) (a : Int), (cellsOf l).set (j * 2 + 1) (.int .i64 a) = cellsOf (l.set j ((Um.sd l j).1, a))
  | [], _, _ => rfl
  | s :: l, 0, _ => rfl
  | s :: l, j + 1, a => by
    have i := cellsOf_setHi l j a
    show (.int .i64 s.1 :: .int .i64 s.2 :: cellsOf l).set ((j + 1) * 2 + 1) _ = .int .i64 s.1 :: .int .i64 s.2 :: cellsOf (l.set j ((Um.sd (s :: l) (j + 1)).1, a))
    rw [show (j + 1) * 2 + 1 = j * 2 + 1 + 1 + 1 by omega]
    simp only [List.set_cons_succ]
    rw [i]
    rfl
/-- A row of one's own, written out: block g holds the spans q. -/
def Own (w : World) (base g cap : Nat) (q : List (Int × Int)) : Prop := w.ownsRow base 28 2 (.slice (some ⟨g, 0, none⟩) q.length cap) q.length (cellsOf q)
theorem Own.ge {w : World} {base g cap : Nat} {q : List (Int × Int)} (h : Own w base g cap q) : base ≤ g := owns_from h g rfl
theorem Own.lt {w : World} {base g cap : Nat} {q : List (Int × Int)} (h : Own w base g cap q) : g < w.heap.size := (World.ownsRow.lt h g rfl).2
theorem Own.ls {w : World} {base g cap : Nat} {q : List (Int × Int)} (h : Own w base g cap q) : Ls w.heap.size w (.slice (some ⟨g, 0, none⟩) q.length cap) q := ls_owns h
theorem Own.step {w w' : World} {base g cap : Nat} {q : List (Int × Int)} (h : Own w base g cap q) (hb : Below w.heap.size w w') : Own w' base g cap q := owns_keep h hb
theorem Own.free {w : World} {base g cap : Nat} {q : List (Int × Int)} (h : Own w base g cap q) (j : Nat) : w.frozen? ⟨g, j, none⟩ = false := World.ownsRow.frozenAt h j
theorem Own.lo {w : World} {base g cap : Nat} {q : List (Int × Int)} (h : Own w base g cap q) {j : Nat} (hj : j < q.length) : w.cell? ⟨g, j * 2, none⟩ = some (.int .i64 (Um.sd q j).1) := (World.ownsRow.cellAt h (j * 2) (by omega)).trans (cellsOf_lo q j hj)
theorem Own.hi {w : World} {base g cap : Nat} {q : List (Int × Int)} (h : Own w base g cap q) {j : Nat} (hj : j < q.length) : w.cell? ⟨g, j * 2 + 1, none⟩ = some (.int .i64 (Um.sd q j).2) := (World.ownsRow.cellAt h (j * 2 + 1) (by omega)).trans (cellsOf_hi q j hj)
theorem Own.putLo {w : World} {base g cap : Nat} {q : List (Int × Int)} (h : Own w base g cap q) (j : Nat) (a : Int) : Own (w.setCell ⟨g, j * 2, none⟩ (.int .i64 a)) base g cap (q.set j (a, (Um.sd q j).2)) := by
  have := (World.ownsRow.stored h (j * 2) (.int .i64 a)).1
  rw [cellsOf_setLo] at this
  unfold Own
  rw [List.length_set]
  exact this
theorem Own.putHi {w : World} {base g cap : Nat} {q : List (Int × Int)} (h : Own w base g cap q) (j : Nat) (a : Int) : Own (w.setCell ⟨g, j * 2 + 1, none⟩ (.int .i64 a)) base g cap (q.set j ((Um.sd q j).1, a)) := by
  have := (World.ownsRow.stored h (j * 2 + 1) (.int .i64 a)).1
  rw [cellsOf_setHi] at this
  unfold Own
  rw [List.length_set]
  exact this
theorem Own.other {w : World} {base g cap : Nat} {q : List (Int × Int)} (h : Own w base g cap q) (p : Addr) (v : Value) (hp : g ≠ p.block) : Own (w.setCell p v) base g cap q := by
  unfold Own at *
  refine ⟨h.1, ?_⟩
  rcases h.2 with h2 | ⟨g', cap', cur, e, hg, hh, h3⟩
  · exact .inl h2
  · refine .inr ⟨g', cap', cur, e, hg, ?_, h3⟩
    have e2 : g = g' := by
      have := e
      simp only [Value.slice.injEq, Option.some.injEq, Addr.mk.injEq] at this
      exact this.1.1
    subst e2
    rw [Below.heap_setCell _ _ _ _ hp]; exact hh
theorem owns_open {w : World} {base : Nat} {r : Value} {q : List (Int × Int)} (h : w.ownsRow base 28 2 r q.length (cellsOf q)) (h0 : 0 < q.length) : ∃ g cap, r = .slice (some ⟨g, 0, none⟩) q.length cap ∧ Own w base g cap q := by
  rcases h.2 with ⟨rfl, e⟩ | ⟨g, cap, cur, rfl, _⟩
  · omega
  · exact ⟨g, cap, rfl, h⟩
/-- A row of none, in a new block. -/
theorem owns_empty {w : World} {base b : Nat} (hb : b = w.heap.size) (h : base ≤ b) : (w.alloc (.cells #[] 28)).ownsRow base 28 2 (.slice (some ⟨b, 0, none⟩) 0 0) 0 [] := by
  subst hb
  refine ⟨rfl, .inr ⟨w.heap.size, 0, #[], rfl, h, ?_, Nat.le_refl _, by unfold maxLen; omega, rfl, rfl⟩⟩
  show (w.heap.push _)[w.heap.size]? = _
  simp

def halfL (q : List (Int × Int)) : List (Int × Int) := if Um.boxF q = 0 then Um.halfA q else []
def halfH (q : List (Int × Int)) : List (Int × Int) := if Um.boxF q = 0 then Um.halfB q else []
end Go.Proofs.YthgehlonjoafmaaDoor
