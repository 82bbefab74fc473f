/-
  A term, a list of lists of terms, a span in a list, each in a block of its own: as a system is written out in a law.
-/
import Derived.Test.YtmkdjaafkigemaaMems2
import Derived.Test.YtmkdjaafkigemaaMems
namespace Go.Proofs.Ytmkdjaafkigemaa
set_option linter.unusedSimpArgs false
open Go.RowKit

theorem lit_lt {w : World} {b cap : Nat} {T : TypeId} (t : Um.Tm) (hb : b = w.heap.size) (hc : 1 ≤ cap) : Lt (w.alloc (.cells #[.int .i64 t.1, .int .i64 t.2.1, .int .i64 t.2.2.1, .int .i64 t.2.2.2] T)).heap.size (w.alloc (.cells #[.int .i64 t.1, .int .i64 t.2.1, .int .i64 t.2.2.1, .int .i64 t.2.2.2] T)) (.slice (some ⟨b, 0, none⟩) 1 cap) [t] := by
  subst hb
  have h := Blk.new w T #[.int .i64 t.1, .int .i64 t.2.1, .int .i64 t.2.2.1, .int .i64 t.2.2.2]
  refine ⟨_, cap, rfl, hc, .inr ⟨w.heap.size, 0, rfl, h.lt, fun j hj => ?_⟩⟩
  obtain rfl : j = 0 := by simpa using hj
  exact ⟨h.cell 0 rfl, h.cell 1 rfl, h.cell 2 rfl, h.cell 3 rfl⟩
theorem lit_lt2 {w : World} {b cap : Nat} {T : TypeId} (t u : Um.Tm) (hb : b = w.heap.size) (hc : 2 ≤ cap) : Lt (w.alloc (.cells #[.int .i64 t.1, .int .i64 t.2.1, .int .i64 t.2.2.1, .int .i64 t.2.2.2, .int .i64 u.1, .int .i64 u.2.1, .int .i64 u.2.2.1, .int .i64 u.2.2.2] T)).heap.size (w.alloc (.cells #[.int .i64 t.1, .int .i64 t.2.1, .int .i64 t.2.2.1, .int .i64 t.2.2.2, .int .i64 u.1, .int .i64 u.2.1, .int .i64 u.2.2.1, .int .i64 u.2.2.2] T)) (.slice (some ⟨b, 0, none⟩) 2 cap) [t, u] := by
  subst hb
  have h := Blk.new w T #[.int .i64 t.1, .int .i64 t.2.1, .int .i64 t.2.2.1, .int .i64 t.2.2.2, .int .i64 u.1, .int .i64 u.2.1, .int .i64 u.2.2.1, .int .i64 u.2.2.2]
  refine ⟨_, cap, rfl, hc, .inr ⟨w.heap.size, 0, rfl, h.lt, fun j hj => ?_⟩⟩
  rcases (by simp at hj; omega : j = 0 ∨ j = 1) with rfl | rfl
  · exact ⟨h.cell 0 rfl, h.cell 1 rfl, h.cell 2 rfl, h.cell 3 rfl⟩
  · exact ⟨h.cell 4 rfl, h.cell 5 rfl, h.cell 6 rfl, h.cell 7 rfl⟩
theorem lit_lf {w : World} {b cap : Nat} {T : TypeId} {u : Value} {f : List Um.Tm} (hb : b = w.heap.size) (hc : 1 ≤ cap) (hu : Lt w.heap.size w u f) : Lf (w.alloc (.cells #[u] T)).heap.size (w.alloc (.cells #[u] T)) (.slice (some ⟨b, 0, none⟩) 1 cap) [f] := by
  subst hb
  have h := Blk.new w T #[u]
  refine ⟨_, cap, rfl, hc, .inr ⟨w.heap.size, 0, rfl, h.lt, fun j hj => ?_⟩⟩
  obtain rfl : j = 0 := by simpa using hj
  exact ⟨u, h.cell 0 rfl, hu.step ((Below.refl _ _).alloc (Nat.le_refl _) _)⟩
theorem lit_ls {w : World} {b cap : Nat} {T : TypeId} (lo hi : Int) (hb : b = w.heap.size) (hc : 1 ≤ cap) : Ls (w.alloc (.cells #[.int .i64 lo, .int .i64 hi] T)).heap.size (w.alloc (.cells #[.int .i64 lo, .int .i64 hi] T)) (.slice (some ⟨b, 0, none⟩) 1 cap) [(lo, hi)] := by
  subst hb
  have h := Blk.new w T #[.int .i64 lo, .int .i64 hi]
  refine ⟨_, cap, rfl, hc, .inr ⟨w.heap.size, 0, rfl, h.lt, fun j hj => ?_⟩⟩
  obtain rfl : j = 0 := by simpa using hj
  exact ⟨h.cell 0 rfl, h.cell 1 rfl⟩
theorem Lf.alloc {w : World} {v : Value} {s : List (List Um.Tm)} (h : Lf w.heap.size w v s) (o : Obj) : Lf (w.alloc o).heap.size (w.alloc o) v s := h.step ((Below.refl _ _).alloc (Nat.le_refl _) o)
theorem Ls.alloc {w : World} {v : Value} {q : List (Int × Int)} (h : Ls w.heap.size w v q) (o : Obj) : Ls (w.alloc o).heap.size (w.alloc o) v q := h.step ((Below.refl _ _).alloc (Nat.le_refl _) o)
theorem Li.alloc {w : World} {v : Value} {q : List Int} (h : Li w.heap.size w v q) (o : Obj) : Li (w.alloc o).heap.size (w.alloc o) v q := (h.keep ((Below.refl _ _).alloc (Nat.le_refl _) o)).wide ((Below.refl w.heap.size w).alloc (Nat.le_refl _) o).size
end Go.Proofs.Ytmkdjaafkigemaa
