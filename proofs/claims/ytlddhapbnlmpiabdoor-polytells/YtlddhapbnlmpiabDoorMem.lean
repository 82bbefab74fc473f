/-
  A span in a block of its own: what is read of it, what it is behind a call, behind a new block, behind a store.
-/
import Derived.Test.YtlddhapbnlmpiabDoorBase
namespace Go.Proofs.YtlddhapbnlmpiabDoor
set_option linter.unusedSimpArgs false
open Go.RowKit

/-- Block b holds the span lo, hi (no cell of it frozen). -/
def Sp (w : World) (b : Nat) (lo hi : Int) : Prop := w.heap[b]? = some (.cells #[.int .i64 lo, .int .i64 hi] 23 (0, 0))
theorem Sp.lt {w : World} {b : Nat} {lo hi : Int} (h : Sp w b lo hi) : b < w.heap.size := by
  unfold Sp at h
  rcases Nat.lt_or_ge b w.heap.size with h2 | h2
  · exact h2
  · rw [Array.getElem?_eq_none h2] at h; cases h
theorem Sp.lo {w : World} {b : Nat} {lo hi : Int} (h : Sp w b lo hi) : w.cell? ⟨b, 0, none⟩ = some (.int .i64 lo) := by
  unfold Sp at h; simp [World.cell?, h]
theorem Sp.hi {w : World} {b : Nat} {lo hi : Int} (h : Sp w b lo hi) : w.cell? ⟨b, 1, none⟩ = some (.int .i64 hi) := by
  unfold Sp at h; simp [World.cell?, h]
theorem Sp.fl {w : World} {b : Nat} {lo hi : Int} (h : Sp w b lo hi) : w.frozen? ⟨b, 0, none⟩ = false := by
  unfold Sp at h; simp [World.frozen?, h]
theorem Sp.fh {w : World} {b : Nat} {lo hi : Int} (h : Sp w b lo hi) : w.frozen? ⟨b, 1, none⟩ = false := by
  unfold Sp at h; simp [World.frozen?, h]
theorem Sp.step {w w' : World} {b : Nat} {lo hi : Int} (h : Sp w b lo hi) (hb : Below w.heap.size w w') : Sp w' b lo hi := by
  have := h.lt
  unfold Sp at *
  rw [hb.block b this]; exact h
theorem Sp.alloc {w : World} {b : Nat} {lo hi : Int} (h : Sp w b lo hi) (o : Obj) : Sp (w.alloc o) b lo hi :=
  h.step ((Below.refl _ _).alloc (Nat.le_refl _) o)
theorem Sp.drewN {w : World} {b : Nat} {lo hi : Int} (h : Sp w b lo hi) (n : Nat) : Sp (w.drewN n) b lo hi := h
theorem Sp.new (w : World) (lo hi : Int) : Sp (w.alloc (.cells #[.int .i64 lo, .int .i64 hi] 23)) w.heap.size lo hi := by
  unfold Sp
  show (w.heap.push _)[w.heap.size]? = _
  simp
theorem Sp.set {w : World} {b : Nat} {lo hi : Int} (h : Sp w b lo hi) (x y : Int) : Sp ((w.setCell ⟨b, 0, none⟩ (.int .i64 x)).setCell ⟨b, 1, none⟩ (.int .i64 y)) b x y := by
  unfold Sp at *
  simp [World.setCell, Array.getElem?_modify, h]
theorem Sp.other {w : World} {b : Nat} {lo hi : Int} (h : Sp w b lo hi) (p : Addr) (v : Value) (hp : b ≠ p.block) : Sp (w.setCell p v) b lo hi := by
  unfold Sp at *
  rw [Below.heap_setCell _ _ _ _ hp]; exact h

/-- What is read behind a store of both ends. -/
theorem Sp.r0 {w : World} {b : Nat} {lo hi : Int} (h : Sp w b lo hi) (x : Value) : (w.setCell ⟨b, 0, none⟩ x).cell? ⟨b, 0, none⟩ = some x := World.cell?_setCell_same' _ _ _ (by rw [h.lo]; rfl)
theorem Sp.r1 {w : World} {b : Nat} {lo hi : Int} (h : Sp w b lo hi) (x y : Value) : ((w.setCell ⟨b, 0, none⟩ x).setCell ⟨b, 1, none⟩ y).cell? ⟨b, 1, none⟩ = some y := World.cell?_setCell_same' _ _ _ (by
  unfold Sp at h
  simp [World.cell?, World.setCell, Array.getElem?_modify, h])

/-- Block b holds these cells (none of them frozen). -/
def Blk (w : World) (b : Nat) (T : TypeId) (cs : Array Value) : Prop := w.heap[b]? = some (.cells cs T (0, 0))
theorem Blk.lt {w : World} {b : Nat} {T : TypeId} {cs : Array Value} (h : Blk w b T cs) : b < w.heap.size := by
  unfold Blk at h
  rcases Nat.lt_or_ge b w.heap.size with h2 | h2
  · exact h2
  · rw [Array.getElem?_eq_none h2] at h; cases h
theorem Blk.cell {w : World} {b : Nat} {T : TypeId} {cs : Array Value} (h : Blk w b T cs) (i : Nat) {v : Value} (hv : cs[i]? = some v) : w.cell? ⟨b, i, none⟩ = some v := by
  unfold Blk at h; simp [World.cell?, h, hv]
theorem Blk.free {w : World} {b : Nat} {T : TypeId} {cs : Array Value} (h : Blk w b T cs) (i : Nat) : w.frozen? ⟨b, i, none⟩ = false := by
  unfold Blk at h; simp [World.frozen?, h]
theorem Blk.step {w w' : World} {b : Nat} {T : TypeId} {cs : Array Value} (h : Blk w b T cs) (hb : Below w.heap.size w w') : Blk w' b T cs := by
  have := h.lt
  unfold Blk at *
  rw [hb.block b this]; exact h
theorem Blk.alloc {w : World} {b : Nat} {T : TypeId} {cs : Array Value} (h : Blk w b T cs) (o : Obj) : Blk (w.alloc o) b T cs :=
  h.step ((Below.refl _ _).alloc (Nat.le_refl _) o)
theorem Blk.new (w : World) (T : TypeId) (cs : Array Value) : Blk (w.alloc (.cells cs T)) w.heap.size T cs := by
  unfold Blk
  show (w.heap.push _)[w.heap.size]? = _
  simp
theorem Blk.set {w : World} {b : Nat} {T : TypeId} {cs : Array Value} (h : Blk w b T cs) (i : Nat) (v : Value) {cs' : Array Value} (e : cs.setIfInBounds i v = cs') : Blk (w.setCell ⟨b, i, none⟩ v) b T cs' := by
  unfold Blk at *
  simp [World.setCell, Array.getElem?_modify, h, e]
theorem Blk.other {w : World} {b : Nat} {T : TypeId} {cs : Array Value} (h : Blk w b T cs) (p : Addr) (v : Value) (hp : b ≠ p.block) : Blk (w.setCell p v) b T cs := by
  unfold Blk at *
  rw [Below.heap_setCell _ _ _ _ hp]; exact h
end Go.Proofs.YtlddhapbnlmpiabDoor
