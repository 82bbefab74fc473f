/-
  A list of ints in memory: what is read of it, what it is behind a call.
-/
import Derived.Test.YtlddhapbnlmpiabDoorBase
namespace Go.Proofs.YtlddhapbnlmpiabDoor
set_option linter.unusedSimpArgs false
open Go.RowKit

/-- The slice value v holds the ints p, in a block below B. -/
def Li (B : Nat) (w : World) (v : Value) (p : List Int) : Prop :=
  ∃ a cap, v = .slice a p.length cap ∧ (p = [] ∨ ∃ b off, a = some ⟨b, off, none⟩ ∧ b < B ∧ ∀ j, j < p.length → w.cell? ⟨b, off + j, none⟩ = some (.int .i64 (p[j]?.getD 0)))
theorem Li.keep {B : Nat} {w w' : World} {v : Value} {p : List Int} (h : Li B w v p) (hb : Below B w w') : Li B w' v p := by
  obtain ⟨a, cap, e, h2⟩ := h
  refine ⟨a, cap, e, h2.imp id ?_⟩
  rintro ⟨b, off, e2, hlt, hc⟩
  exact ⟨b, off, e2, hlt, fun j hj => (hb.cell (p := ⟨b, off + j, none⟩) hlt).trans (hc j hj)⟩
theorem Li.wide {B B' : Nat} {w : World} {v : Value} {p : List Int} (h : Li B w v p) (hb : B ≤ B') : Li B' w v p := by
  obtain ⟨a, cap, e, h2⟩ := h
  refine ⟨a, cap, e, h2.imp id ?_⟩
  rintro ⟨b, off, e2, hlt, hc⟩
  exact ⟨b, off, e2, by omega, hc⟩
/-- A list that is not empty, written out. -/
theorem Li.out {B : Nat} {w : World} {v : Value} {p : List Int} (h : Li B w v p) (h0 : p ≠ []) :
    ∃ b off cap, v = .slice (some ⟨b, off, none⟩) p.length cap ∧ b < B ∧ ∀ j, j < p.length → w.cell? ⟨b, off + j, none⟩ = some (.int .i64 (p[j]?.getD 0)) := by
  obtain ⟨a, cap, e, h2⟩ := h
  rcases h2 with h2 | ⟨b, off, rfl, hlt, hc⟩
  · exact absurd h2 h0
  · exact ⟨b, off, cap, e, hlt, hc⟩
theorem Li.nil (B : Nat) (w : World) : Li B w (.slice none 0 0) [] := ⟨none, 0, rfl, .inl rfl⟩
/-- A block of cells that holds a list. -/
theorem Li.new {w : World} {b cap : Nat} {T : TypeId} {p : List Int} {cs : Array Value} (h : w.heap[b]? = some (.cells cs T (0, 0))) (hc : ∀ j, j < p.length → cs[j]? = some (.int .i64 (p[j]?.getD 0))) :
    Li w.heap.size w (.slice (some ⟨b, 0, none⟩) p.length cap) p := by
  refine ⟨_, cap, rfl, .inr ⟨b, 0, rfl, (Array.getElem?_eq_some_iff.1 h).1, fun j hj => ?_⟩⟩
  simp [World.cell?, h, hc j hj]
/-- A list of one number in a block of its own. -/
theorem Li.one (w : World) (n : Int) (T : TypeId) : Li (w.alloc (.cells #[.int .i64 n] T)).heap.size (w.alloc (.cells #[.int .i64 n] T)) (.slice (some ⟨w.heap.size, 0, none⟩) 1 1) [n] := by
  refine Li.new (p := [n]) (cs := #[.int .i64 n]) (T := T) ?_ ?_
  · show (w.heap.push _)[w.heap.size]? = _
    simp
  · intro j hj
    obtain rfl : j = 0 := by simpa using hj
    simp
theorem Li.one' {w : World} {b : Nat} (n : Int) (T : TypeId) (hb : b = w.heap.size) : Li (w.alloc (.cells #[.int .i64 n] T)).heap.size (w.alloc (.cells #[.int .i64 n] T)) (.slice (some ⟨b, 0, none⟩) 1 1) [n] := by
  subst hb; exact Li.one w n T
/-- A list that is written out, in a block of its own. -/
theorem Li.lit {w : World} {b cap : Nat} {cs : Array Value} {T : TypeId} {p : List Int} (hb : b = w.heap.size) (hc : ∀ j, j < p.length → cs[j]? = some (.int .i64 (p[j]?.getD 0))) :
    Li (w.alloc (.cells cs T)).heap.size (w.alloc (.cells cs T)) (.slice (some ⟨b, 0, none⟩) p.length cap) p := by
  subst hb
  refine Li.new (cs := cs) (T := T) ?_ hc
  show (w.heap.push _)[w.heap.size]? = _
  simp
theorem three_cells {x y z : Int} (j : Nat) (hj : j < ([x, y, z] : List Int).length) : (#[.int .i64 x, .int .i64 y, .int .i64 z] : Array Value)[j]? = some (.int .i64 (([x, y, z] : List Int)[j]?.getD 0)) := by
  rcases (by simp at hj; omega : j = 0 ∨ j = 1 ∨ j = 2) with rfl | rfl | rfl <;> rfl
theorem two_cells {x y : Int} (j : Nat) (hj : j < ([x, y] : List Int).length) : (#[.int .i64 x, .int .i64 y] : Array Value)[j]? = some (.int .i64 (([x, y] : List Int)[j]?.getD 0)) := by
  rcases (by simp at hj; omega : j = 0 ∨ j = 1) with rfl | rfl <;> rfl
end Go.Proofs.YtlddhapbnlmpiabDoor
