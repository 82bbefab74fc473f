/-
  A span in a block of its own: what is read of it, what it is behind a call, behind a new block, behind a store.
  Spans of a call's own in memory, one block each: what is read of each of them behind calls, new blocks and stores.
  A list of ints in memory: what is read of it, what it is behind a call.
  A statement that leaves its order open, by what is carried along: whatever order its operations come in, what holds ahead of each holds behind it; then it holds behind all. One proof for each operation, not one for each order.
  A statement that leaves its order open, with a span's new block: what is listed, and the blocks behind it.
  A list of spans in memory: what is read of it, what it is behind a call, of a row of the call's own.
  A row of the call's own that grows from call to call: which blocks stay as they were, and where the row lies.
  A list of ints of a call's own, as append makes it; spansame.Ints of two that are the same.
-/
import Derived.Test.YtkfalmdckmlneaaGreatDoorBase
import Derived.OrdersIn
import Derived.Orders
import Derived.Laws.World
import Derived.OwnWalk
import Derived.Laws.OwnMore
import Derived.Maps.AppendAt
import Derived.Below
import Derived.LoopTactic
namespace Go.Proofs.YtkfalmdckmlneaaGreatDoor
set_option linter.unusedSimpArgs false
open Go.RowKit

/-- Block b holds the span lo, hi (no cell of it frozen). -/
def Sp (w : World) (b : Nat) (lo hi : Int) : Prop := w.heap[b]? = some (.cells #[.int .i64 lo, .int .i64 hi] 29 (0, 0))
theorem Sp.lt {w : World} {b : Nat} {lo hi : Int} (h : Sp w b lo hi) : b < w.heap.size := by
  unfold Sp at h
  rcases Nat.lt_or_ge b w.heap.size with h2 | h2
  · exact h2
  · rw [Array.getElem?_eq_none h2] at h; cases h
theorem Sp.lo {w : World} {b : Nat} {lo hi : Int} (h : Sp w b lo hi) : w.cell? ⟨b, 0, none⟩ = some (.int .i64 lo) := by
  unfold Sp at h; simp [World.cell?, h]
theorem Sp.hi {w : World} {b : Nat} {lo hi : Int} (h : Sp w b lo hi) : w.cell? ⟨b, 1, none⟩ = some (.int .i64 hi) := by
  unfold Sp at h; simp [World.cell?, h]
theorem Sp.fl {w : World} {b : Nat} {lo hi : Int} (h : Sp w b lo hi) : w.frozen? ⟨b, 0, none⟩ = false := by
  unfold Sp at h; simp [World.frozen?, h]
theorem Sp.fh {w : World} {b : Nat} {lo hi : Int} (h : Sp w b lo hi) : w.frozen? ⟨b, 1, none⟩ = false := by
  unfold Sp at h; simp [World.frozen?, h]
theorem Sp.step {w w' : World} {b : Nat} {lo hi : Int} (h : Sp w b lo hi) (hb : Below w.heap.size w w') : Sp w' b lo hi := by
  have := h.lt
  unfold Sp at *
  rw [hb.block b this]; exact h
theorem Sp.alloc {w : World} {b : Nat} {lo hi : Int} (h : Sp w b lo hi) (o : Obj) : Sp (w.alloc o) b lo hi :=
  h.step ((Below.refl _ _).alloc (Nat.le_refl _) o)
theorem Sp.drewN {w : World} {b : Nat} {lo hi : Int} (h : Sp w b lo hi) (n : Nat) : Sp (w.drewN n) b lo hi := h
theorem Sp.new (w : World) (lo hi : Int) : Sp (w.alloc (.cells #[.int .i64 lo, .int .i64 hi] 29)) w.heap.size lo hi := by
  unfold Sp
  show (w.heap.push _)[w.heap.size]? = _
  simp
theorem Sp.set {w : World} {b : Nat} {lo hi : Int} (h : Sp w b lo hi) (x y : Int) : Sp ((w.setCell ⟨b, 0, none⟩ (.int .i64 x)).setCell ⟨b, 1, none⟩ (.int .i64 y)) b x y := by
  unfold Sp at *
  simp [World.setCell, Array.getElem?_modify, h]
theorem Sp.other {w : World} {b : Nat} {lo hi : Int} (h : Sp w b lo hi) (p : Addr) (v : Value) (hp : b ≠ p.block) : Sp (w.setCell p v) b lo hi := by
  unfold Sp at *
  rw [Below.heap_setCell _ _ _ _ hp]; exact h

/-- What is read behind a store of both ends. -/
theorem Sp.r0 {w : World} {b : Nat} {lo hi : Int} (h : Sp w b lo hi) (x : Value) : (w.setCell ⟨b, 0, none⟩ x).cell? ⟨b, 0, none⟩ = some x := World.cell?_setCell_same' _ _ _ (by rw [h.lo]; rfl)
theorem Sp.r1 {w : World} {b : Nat} {lo hi : Int} (h : Sp w b lo hi) (x y : Value) : ((w.setCell ⟨b, 0, none⟩ x).setCell ⟨b, 1, none⟩ y).cell? ⟨b, 1, none⟩ = some y := World.cell?_setCell_same' _ _ _ (by
  unfold Sp at h
  simp [World.cell?, World.setCell, Array.getElem?_modify, h])

/-- Block b holds these cells (none of them frozen). -/
def Blk (w : World) (b : Nat) (T : TypeId) (cs : Array Value) : Prop := w.heap[b]? = some (.cells cs T (0, 0))
theorem Blk.lt {w : World} {b : Nat} {T : TypeId} {cs : Array Value} (h : Blk w b T cs) : b < w.heap.size := by
  unfold Blk at h
  rcases Nat.lt_or_ge b w.heap.size with h2 | h2
  · exact h2
  · rw [Array.getElem?_eq_none h2] at h; cases h
theorem Blk.cell {w : World} {b : Nat} {T : TypeId} {cs : Array Value} (h : Blk w b T cs) (i : Nat) {v : Value} (hv : cs[i]? = some v) : w.cell? ⟨b, i, none⟩ = some v := by
  unfold Blk at h; simp [World.cell?, h, hv]
theorem Blk.free {w : World} {b : Nat} {T : TypeId} {cs : Array Value} (h : Blk w b T cs) (i : Nat) : w.frozen? ⟨b, i, none⟩ = false := by
  unfold Blk at h; simp [World.frozen?, h]
theorem Blk.step {w w' : World} {b : Nat} {T : TypeId} {cs : Array Value} (h : Blk w b T cs) (hb : Below w.heap.size w w') : Blk w' b T cs := by
  have := h.lt
  unfold Blk at *
  rw [hb.block b this]; exact h
theorem Blk.alloc {w : World} {b : Nat} {T : TypeId} {cs : Array Value} (h : Blk w b T cs) (o : Obj) : Blk (w.alloc o) b T cs :=
  h.step ((Below.refl _ _).alloc (Nat.le_refl _) o)
theorem Blk.new (w : World) (T : TypeId) (cs : Array Value) : Blk (w.alloc (.cells cs T)) w.heap.size T cs := by
  unfold Blk
  show (w.heap.push _)[w.heap.size]? = _
  simp
theorem Blk.set {w : World} {b : Nat} {T : TypeId} {cs : Array Value} (h : Blk w b T cs) (i : Nat) (v : Value) {cs' : Array Value} (e : cs.setIfInBounds i v = cs') : Blk (w.setCell ⟨b, i, none⟩ v) b T cs' := by
  unfold Blk at *
  simp [World.setCell, Array.getElem?_modify, h, e]
theorem Blk.other {w : World} {b : Nat} {T : TypeId} {cs : Array Value} (h : Blk w b T cs) (p : Addr) (v : Value) (hp : b ≠ p.block) : Blk (w.setCell p v) b T cs := by
  unfold Blk at *
  rw [Below.heap_setCell _ _ _ _ hp]; exact h
end Go.Proofs.YtkfalmdckmlneaaGreatDoor
namespace Go.Proofs.YtkfalmdckmlneaaGreatDoor
set_option linter.unusedSimpArgs false
open Go.RowKit

/-- Blocks of one's own, each with its span; no block from before is other than it was. -/
structure Fr (w wr : World) (l : List (Nat × Int × Int)) : Prop where
  below : Below w.heap.size w wr
  mem : ∀ x ∈ l, w.heap.size ≤ x.1 ∧ Sp wr x.1 x.2.1 x.2.2
  apart : l.Pairwise (fun a b => a.1 ≠ b.1)
theorem Fr.start (w : World) : Fr w w [] := ⟨Below.refl _ _, by simp, List.Pairwise.nil⟩
theorem Fr.size {w wr : World} {l : List (Nat × Int × Int)} (h : Fr w wr l) : w.heap.size ≤ wr.heap.size := h.below.size
theorem Fr.step {w wr w' : World} {l : List (Nat × Int × Int)} (h : Fr w wr l) (hb : Below wr.heap.size wr w') : Fr w w' l :=
  ⟨h.below.trans (hb.mono h.below.size), fun x hx => ⟨(h.mem x hx).1, (h.mem x hx).2.step hb⟩, h.apart⟩
theorem Fr.alloc {w wr : World} {l : List (Nat × Int × Int)} (h : Fr w wr l) (o : Obj) : Fr w (wr.alloc o) l :=
  h.step ((Below.refl _ _).alloc (Nat.le_refl _) o)
theorem Fr.push {w wr : World} {l : List (Nat × Int × Int)} (h : Fr w wr l) {b : Nat} (lo hi : Int) (hb : b = wr.heap.size) : Fr w (wr.alloc (.cells #[.int .i64 lo, .int .i64 hi] 29)) ((b, lo, hi) :: l) := by
  subst hb
  refine ⟨h.below.alloc h.below.size _, ?_, ?_⟩
  · intro x hx
    rcases List.mem_cons.1 hx with rfl | hx
    · exact ⟨h.below.size, Sp.new _ _ _⟩
    · exact ⟨(h.mem x hx).1, (h.mem x hx).2.alloc _⟩
  · refine List.pairwise_cons.2 ⟨fun x hx => ?_, h.apart⟩
    have := (h.mem x hx).2.lt
    show wr.heap.size ≠ x.1
    omega
theorem Fr.at {w wr : World} {l : List (Nat × Int × Int)} (h : Fr w wr l) (i : Nat) {b : Nat} {lo hi : Int} (hi' : l[i]? = some (b, lo, hi)) : Sp wr b lo hi := (h.mem _ (List.mem_of_getElem? hi')).2
theorem Fr.from {w wr : World} {l : List (Nat × Int × Int)} (h : Fr w wr l) (i : Nat) {b : Nat} {lo hi : Int} (hi' : l[i]? = some (b, lo, hi)) : w.heap.size ≤ b := (h.mem _ (List.mem_of_getElem? hi')).1
theorem Fr.put {w wr : World} {l l' : List (Nat × Int × Int)} (h : Fr w wr l) (i : Nat) {b : Nat} {lo hi : Int} (hi' : l[i]? = some (b, lo, hi)) (c d : Int) (hl : l.set i (b, c, d) = l') :
    Fr w ((wr.setCell ⟨b, 0, none⟩ (.int .i64 c)).setCell ⟨b, 1, none⟩ (.int .i64 d)) l' := by
  subst hl
  have hs := h.at i hi'
  have hf := h.from i hi'
  obtain ⟨hlt, hg⟩ := List.getElem?_eq_some_iff.1 hi'
  refine ⟨(h.below.setCell hf _).setCell hf _, ?_, ?_⟩
  · intro x hx
    obtain ⟨j, hj, rfl⟩ := List.getElem_of_mem hx
    rw [List.length_set] at hj
    by_cases e : i = j
    · subst e
      rw [List.getElem_set_self]
      exact ⟨hf, hs.set c d⟩
    · rw [List.getElem_set_ne e]
      have hm := h.mem l[j] (List.getElem_mem hj)
      have hne : (l[j]).1 ≠ b := by
        have hp := List.pairwise_iff_getElem.1 h.apart
        have eb : (l[i]).1 = b := by rw [hg]
        rcases (by omega : i < j ∨ j < i) with q | q
        · have := hp i j hlt hj q; omega
        · have := hp j i hj hlt q; omega
      exact ⟨hm.1, (hm.2.other _ _ hne).other _ _ hne⟩
  · rw [List.pairwise_iff_getElem]
    intro a b' ha hb' hab
    rw [List.length_set] at ha hb'
    have hp := List.pairwise_iff_getElem.1 h.apart a b' ha hb' hab
    have key : ∀ k (hk : k < l.length), ((l.set i (b, c, d))[k]'(by rw [List.length_set]; exact hk)).1 = (l[k]).1 := by
      intro k hk
      by_cases e : i = k
      · subst e; rw [List.getElem_set_self, hg]
      · rw [List.getElem_set_ne e]
    rw [key a ha, key b' hb']
    exact hp
theorem Fr.drop {w wr : World} {l : List (Nat × Int × Int)} {x : Nat × Int × Int} (h : Fr w wr (x :: l)) : Fr w wr l :=
  ⟨h.below, fun y hy => h.mem y (List.mem_cons_of_mem _ hy), (List.pairwise_cons.1 h.apart).2⟩
theorem Fr.two (w : World) (lo hi : Int) : Fr w ((w.alloc (.cells #[.int .i64 lo, .int .i64 hi] 29)).alloc (.cells #[.int .i64 0, .int .i64 0] 29)) [(w.heap.size + 1, 0, 0), (w.heap.size, lo, hi)] :=
  ((Fr.start w).push lo hi rfl).push 0 0 (by simp)
end Go.Proofs.YtkfalmdckmlneaaGreatDoor
namespace Go.Proofs.YtkfalmdckmlneaaGreatDoor
set_option linter.unusedSimpArgs false
open Go.RowKit

/-- The slice value v holds the ints p, in a block below B. -/
def Li (B : Nat) (w : World) (v : Value) (p : List Int) : Prop :=
  ∃ a cap, v = .slice a p.length cap ∧ (p = [] ∨ ∃ b off, a = some ⟨b, off, none⟩ ∧ b < B ∧ ∀ j, j < p.length → w.cell? ⟨b, off + j, none⟩ = some (.int .i64 (p[j]?.getD 0)))
theorem Li.keep {B : Nat} {w w' : World} {v : Value} {p : List Int} (h : Li B w v p) (hb : Below B w w') : Li B w' v p := by
  obtain ⟨a, cap, e, h2⟩ := h
  refine ⟨a, cap, e, h2.imp id ?_⟩
  rintro ⟨b, off, e2, hlt, hc⟩
  exact ⟨b, off, e2, hlt, fun j hj => (hb.cell (p := ⟨b, off + j, none⟩) hlt).trans (hc j hj)⟩
theorem Li.wide {B B' : Nat} {w : World} {v : Value} {p : List Int} (h : Li B w v p) (hb : B ≤ B') : Li B' w v p := by
  obtain ⟨a, cap, e, h2⟩ := h
  refine ⟨a, cap, e, h2.imp id ?_⟩
  rintro ⟨b, off, e2, hlt, hc⟩
  exact ⟨b, off, e2, by omega, hc⟩
/-- A list that is not empty, written out. -/
theorem Li.out {B : Nat} {w : World} {v : Value} {p : List Int} (h : Li B w v p) (h0 : p ≠ []) :
    ∃ b off cap, v = .slice (some ⟨b, off, none⟩) p.length cap ∧ b < B ∧ ∀ j, j < p.length → w.cell? ⟨b, off + j, none⟩ = some (.int .i64 (p[j]?.getD 0)) := by
  obtain ⟨a, cap, e, h2⟩ := h
  rcases h2 with h2 | ⟨b, off, rfl, hlt, hc⟩
  · exact absurd h2 h0
  · exact ⟨b, off, cap, e, hlt, hc⟩
theorem Li.nil (B : Nat) (w : World) : Li B w (.slice none 0 0) [] := ⟨none, 0, rfl, .inl rfl⟩
/-- A block of cells that holds a list. -/
theorem Li.new {w : World} {b cap : Nat} {T : TypeId} {p : List Int} {cs : Array Value} (h : w.heap[b]? = some (.cells cs T (0, 0))) (hc : ∀ j, j < p.length → cs[j]? = some (.int .i64 (p[j]?.getD 0))) :
    Li w.heap.size w (.slice (some ⟨b, 0, none⟩) p.length cap) p := by
  refine ⟨_, cap, rfl, .inr ⟨b, 0, rfl, (Array.getElem?_eq_some_iff.1 h).1, fun j hj => ?_⟩⟩
  simp [World.cell?, h, hc j hj]
/-- A list of one number in a block of its own. -/
theorem Li.one (w : World) (n : Int) (T : TypeId) : Li (w.alloc (.cells #[.int .i64 n] T)).heap.size (w.alloc (.cells #[.int .i64 n] T)) (.slice (some ⟨w.heap.size, 0, none⟩) 1 1) [n] := by
  refine Li.new (p := [n]) (cs := #[.int .i64 n]) (T := T) ?_ ?_
  · show (w.heap.push _)[w.heap.size]? = _
    simp
  · intro j hj
    obtain rfl : j = 0 := by simpa using hj
    simp
theorem Li.one' {w : World} {b : Nat} (n : Int) (T : TypeId) (hb : b = w.heap.size) : Li (w.alloc (.cells #[.int .i64 n] T)).heap.size (w.alloc (.cells #[.int .i64 n] T)) (.slice (some ⟨b, 0, none⟩) 1 1) [n] := by
  subst hb; exact Li.one w n T
/-- A list that is written out, in a block of its own. -/
theorem Li.lit {w : World} {b cap : Nat} {cs : Array Value} {T : TypeId} {p : List Int} (hb : b = w.heap.size) (hc : ∀ j, j < p.length → cs[j]? = some (.int .i64 (p[j]?.getD 0))) :
    Li (w.alloc (.cells cs T)).heap.size (w.alloc (.cells cs T)) (.slice (some ⟨b, 0, none⟩) p.length cap) p := by
  subst hb
  refine Li.new (cs := cs) (T := T) ?_ hc
  show (w.heap.push _)[w.heap.size]? = _
  simp
theorem three_cells {x y z : Int} (j : Nat) (hj : j < ([x, y, z] : List Int).length) : (#[.int .i64 x, .int .i64 y, .int .i64 z] : Array Value)[j]? = some (.int .i64 (([x, y, z] : List Int)[j]?.getD 0)) := by
  rcases (by simp at hj; omega : j = 0 ∨ j = 1 ∨ j = 2) with rfl | rfl | rfl <;> rfl
theorem two_cells {x y : Int} (j : Nat) (hj : j < ([x, y] : List Int).length) : (#[.int .i64 x, .int .i64 y] : Array Value)[j]? = some (.int .i64 (([x, y] : List Int)[j]?.getD 0)) := by
  rcases (by simp at hj; omega : j = 0 ∨ j = 1) with rfl | rfl <;> rfl
end Go.Proofs.YtkfalmdckmlneaaGreatDoor
namespace Go.Free
set_option linter.unusedSimpArgs false

/-- What must have come ahead of operation i. -/
def needs (ops : Array Oper) (i : Nat) : List Nat := match ops[i]? with
  | none => []
  | some o => (o.after.toList.filter fun e => Region.binds .any e).map (·.on)
/-- Whatever must have come ahead stands ahead in the text. -/
def down (ops : Array Oper) : Bool := (List.range ops.size).all fun i => (needs ops i).all fun j => decide (j < i)

theorem mem_ready {ops : Array Oper} {listed : Array Bool} {i : Nat} (h : i ∈ Region.ready .any ops listed) : i < ops.size ∧ listed.getD i true = false ∧ ∀ j ∈ needs ops i, listed.getD j false = true := by
  unfold Region.ready at h
  rw [List.mem_filter, List.mem_range] at h
  obtain ⟨h1, h2⟩ := h
  rw [Bool.and_eq_true] at h2
  obtain ⟨h3, h4⟩ := h2
  refine ⟨h1, by simpa using h3, ?_⟩
  unfold needs
  rw [Array.getElem?_eq_getElem h1] at h4 ⊢
  intro j hj
  obtain ⟨e, he, rfl⟩ := List.mem_map.1 hj
  obtain ⟨he1, he2⟩ := List.mem_filter.1 he
  have h5 : (ops[i].after.all fun e => !Region.binds .any e || listed.getD e.on false) = true := h4
  have := Array.all_eq_true'.1 h5 e (by simpa using he1)
  rw [he2] at this
  simpa using this
theorem ready_of {ops : Array Oper} {listed : Array Bool} {i : Nat} (h1 : i < ops.size) (h2 : listed.getD i true = false) (h3 : ∀ j ∈ needs ops i, listed.getD j false = true) : i ∈ Region.ready .any ops listed := by
  unfold Region.ready
  rw [List.mem_filter, List.mem_range]
  refine ⟨h1, ?_⟩
  rw [Bool.and_eq_true]
  refine ⟨by simpa using h2, ?_⟩
  unfold needs at h3
  rw [Array.getElem?_eq_getElem h1] at h3 ⊢
  have : (ops[i].after.all fun e => !Region.binds .any e || listed.getD e.on false) = true := by
    refine Array.all_eq_true'.2 fun e he => ?_
    cases hb : Region.binds .any e
    · rfl
    · exact h3 _ (List.mem_map.2 ⟨e, List.mem_filter.2 ⟨by simpa using he, hb⟩, rfl⟩)
  simpa using this
theorem all_listed {ops : Array Oper} {listed : Array Bool} (hd : down ops = true) (hs : listed.size = ops.size) (h : Region.ready .any ops listed = []) : ∀ i, i < ops.size → listed.getD i true = true := by
  intro i
  induction i using Nat.strongRecOn with
  | _ i ih =>
    intro hi
    cases hl : listed.getD i true
    · have hm : i ∈ Region.ready .any ops listed := ready_of hi hl fun j hj => by
        have hall := List.all_eq_true.1 (List.all_eq_true.1 hd i (List.mem_range.2 hi)) j hj
        have hlt : j < i := by simpa using hall
        have := ih j hlt (by omega)
        rw [Array.getD_eq_getD_getElem?, Array.getElem?_eq_getElem (by omega)] at this ⊢
        simpa using this
      rw [h] at hm; cases hm
    · rfl

/-- How many have not come. -/
def left (listed : Array Bool) : Nat := (listed.toList.filter (! ·)).length
theorem left_zero {listed : Array Bool} (h : left listed = 0) (i : Nat) (hi : i < listed.size) : listed.getD i true = true := by
  have h0 := List.length_eq_zero_iff.1 h
  cases hl : listed.getD i true
  · have hm : false ∈ listed.toList.filter (! ·) := List.mem_filter.2 ⟨by
      rw [Array.getD_eq_getD_getElem?, Array.getElem?_eq_getElem hi] at hl
      have hl' : listed[i] = false := by simpa using hl
      rw [← hl']; simp, rfl⟩
    rw [h0] at hm; cases hm
  · rfl
theorem left_list : ∀ (l : List Bool) (i : Nat), l[i]? = some false → ((l.set i true).filter (! ·)).length + 1 = (l.filter (! ·)).length
  | [], i, h => by simp at h
  | b :: l, 0, h => by
    have : b = false := by simpa using h
    subst this; simp
  | b :: l, i + 1, h => by
    have ih := left_list l i (by simpa using h)
    cases b <;> simp at ih ⊢ <;> omega
theorem left_set {listed : Array Bool} {i : Nat} (h : listed.getD i true = false) : left (listed.setIfInBounds i true) + 1 = left listed := by
  unfold left
  rw [Array.toList_setIfInBounds]
  refine left_list _ _ ?_
  rw [Array.getD_eq_getD_getElem?] at h
  cases he : listed[i]? with
  | none => rw [he] at h; cases h
  | some b => rw [he] at h; rw [Array.getElem?_toList, he]; simpa using h
theorem none_ready {ops : Array Oper} {listed : Array Bool} (hs : listed.size = ops.size) (h : left listed = 0) : Region.ready .any ops listed = [] := by
  rw [List.eq_nil_iff_forall_not_mem]
  intro i hi
  obtain ⟨h1, h2, _⟩ := mem_ready hi
  rw [left_zero h i (by omega)] at h2; cases h2

section
variable {F : Fence} {n : Nat} {P : Program} {ops : Array Oper} {Q : Exit → Act → World → Prop}

theorem anyIn (hd : down ops = true) (Inv : Array Bool → Act → World → Prop)
    (hs : ∀ (i : Nat) (listed : Array Bool) (a : Act) (w : World), i < ops.size → (∀ j, (needs ops i).contains j = true → listed.getD j false = true) → listed.getD i true = false → listed.size = ops.size → Inv listed a w → wpOpIn F n P ops Q i (Inv (listed.setIfInBounds i true)) a w)
    (he : ∀ (listed : Array Bool) (a : Act) (w : World), (∀ i, i < ops.size → listed.getD i true = true) → listed.size = ops.size → Inv listed a w → Q .normal a w) :
    ∀ (fuel : Nat) (listed : Array Bool) (a : Act) (w : World), listed.size = ops.size → left listed ≤ fuel → Inv listed a w → wpAnyIn F n P .any ops Q fuel listed a w
  | 0, listed, a, w, hz, hl, hI => ⟨none_ready hz (by omega), he listed a w (fun i hi => left_zero (by omega) i (by omega)) hz hI⟩
  | fuel + 1, listed, a, w, hz, hl, hI => by
    refine ⟨fun h => he listed a w (all_listed hd hz h) hz hI, fun i hi => ?_⟩
    obtain ⟨h1, h2, h3⟩ := mem_ready hi
    have := left_set h2
    exact wpOpIn_mono (fun a' w' h' => anyIn hd Inv hs he fuel _ a' w' (by simpa using hz) (by omega) h') (hs i listed a w h1 (fun j hj => h3 j (by simpa using hj)) h2 hz hI)
/-- Whatever order: in a fence. -/
theorem regionIn {id : Nat} {a : Act} {w : World} (hm : P.follows .mixedOrders = true) (hd : down ops = true) (Inv : Array Bool → Act → World → Prop)
    (h0 : Inv (Array.replicate ops.size false) a w.drew)
    (hs : ∀ (i : Nat) (listed : Array Bool) (a : Act) (w : World), i < ops.size → (∀ j, (needs ops i).contains j = true → listed.getD j false = true) → listed.getD i true = false → listed.size = ops.size → Inv listed a w → wpOpIn F n P ops Q i (Inv (listed.setIfInBounds i true)) a w)
    (he : ∀ (listed : Array Bool) (a : Act) (w : World), (∀ i, i < ops.size → listed.getD i true = true) → listed.size = ops.size → Inv listed a w → Q .normal a w) : (Code.region id ops true).wpIn F n P Q a w :=
  wpIn_region_any hm (anyIn hd Inv hs he _ _ _ _ (by simp) (by unfold left; refine Nat.le_trans (List.length_filter_le _ _) ?_; simp) h0)
theorem opIn {i : Nat} {o : Oper} {K : Act → World → Prop} {a : Act} {w : World} (ho : ops[i]? = some o) (hg : o.guard = none) (h : ∀ K' : Act → World → Prop, (∀ a w, K a w → K' a w) → o.wpIn F n P a w K' Q) : wpOpIn F n P ops Q i K a w := by
  unfold wpOpIn
  rw [ho]
  simp only [Region.wanted, hg, if_true]
  exact h _ (fun _ _ h => h)

theorem any (hd : down ops = true) (Inv : Array Bool → Act → World → Prop)
    (hs : ∀ (i : Nat) (listed : Array Bool) (a : Act) (w : World), i < ops.size → (∀ j, (needs ops i).contains j = true → listed.getD j false = true) → listed.getD i true = false → listed.size = ops.size → Inv listed a w → wpOp P ops Q i (Inv (listed.setIfInBounds i true)) a w)
    (he : ∀ (listed : Array Bool) (a : Act) (w : World), (∀ i, i < ops.size → listed.getD i true = true) → listed.size = ops.size → Inv listed a w → Q .normal a w) :
    ∀ (fuel : Nat) (listed : Array Bool) (a : Act) (w : World), listed.size = ops.size → left listed ≤ fuel → Inv listed a w → wpAny P .any ops Q fuel listed a w
  | 0, listed, a, w, hz, hl, hI => ⟨none_ready hz (by omega), he listed a w (fun i hi => left_zero (by omega) i (by omega)) hz hI⟩
  | fuel + 1, listed, a, w, hz, hl, hI => by
    refine ⟨fun h => he listed a w (all_listed hd hz h) hz hI, fun i hi => ?_⟩
    obtain ⟨h1, h2, h3⟩ := mem_ready hi
    have := left_set h2
    exact wpOp_mono (fun a' w' h' => any hd Inv hs he fuel _ a' w' (by simpa using hz) (by omega) h') (hs i listed a w h1 (fun j hj => h3 j (by simpa using hj)) h2 hz hI)
/-- Whatever order. -/
theorem region {id : Nat} {a : Act} {w : World} (hm : P.follows .mixedOrders = true) (hd : down ops = true) (Inv : Array Bool → Act → World → Prop)
    (h0 : Inv (Array.replicate ops.size false) a w.drew)
    (hs : ∀ (i : Nat) (listed : Array Bool) (a : Act) (w : World), i < ops.size → (∀ j, (needs ops i).contains j = true → listed.getD j false = true) → listed.getD i true = false → listed.size = ops.size → Inv listed a w → wpOp P ops Q i (Inv (listed.setIfInBounds i true)) a w)
    (he : ∀ (listed : Array Bool) (a : Act) (w : World), (∀ i, i < ops.size → listed.getD i true = true) → listed.size = ops.size → Inv listed a w → Q .normal a w) : (Code.region id ops true).wp P Q a w :=
  wp_region_any hm (any hd Inv hs he _ _ _ _ (by simp) (by unfold left; refine Nat.le_trans (List.length_filter_le _ _) ?_; simp) h0)
theorem op {i : Nat} {o : Oper} {K : Act → World → Prop} {a : Act} {w : World} (ho : ops[i]? = some o) (hg : o.guard = none) (h : ∀ K' : Act → World → Prop, (∀ a w, K a w → K' a w) → o.wp P a w K' Q) : wpOp P ops Q i K a w := by
  unfold wpOp
  rw [ho]
  simp only [Region.wanted, hg, if_true]
  exact .inl (h _ (fun _ _ h => h))
end
/-- One more has come: what was listed, and the new one. -/
theorem set_same {listed : Array Bool} {i : Nat} (h : i < listed.size) : (listed.setIfInBounds i true).getD i false = true := by
  rw [Array.getD_eq_getD_getElem?, Array.getElem?_setIfInBounds_self_of_lt h]; rfl
theorem set_other {listed : Array Bool} {i j : Nat} (hne : i ≠ j) (d : Bool) : (listed.setIfInBounds i true).getD j d = listed.getD j d := by
  rw [Array.getD_eq_getD_getElem?, Array.getElem?_setIfInBounds_ne hne, Array.getD_eq_getD_getElem?]
theorem of_set {listed : Array Bool} {i j : Nat} (hne : i ≠ j) {p : Prop} (h : listed.getD j false = true → p) : (listed.setIfInBounds i true).getD j false = true → p := fun e => h ((set_other hne false).symm.trans e)
theorem listed_of {ops : Array Oper} {listed : Array Bool} (h : ∀ i, i < ops.size → listed.getD i true = true) (hs : listed.size = ops.size) (i : Nat) (hi : i < ops.size) : listed.getD i false = true := by
  have := h i hi
  rw [Array.getD_eq_getD_getElem?, Array.getElem?_eq_getElem (by omega)] at this ⊢
  simpa using this
theorem none_yet (n i : Nat) : (Array.replicate n false).getD i false = false := by
  rw [Array.getD_eq_getD_getElem?]
  cases h : (Array.replicate n false)[i]? with
  | none => rfl
  | some b => rw [Array.getElem?_replicate] at h; split at h <;> cases h; rfl
theorem not_yet {n i : Nat} {p : Prop} (e : (Array.replicate n false).getD i false = true) : p := by rw [none_yet] at e; cases e
theorem off {listed : Array Bool} {i : Nat} (h : listed.getD i true = false) : listed.getD i false = false := by
  rw [Array.getD_eq_getD_getElem?] at h ⊢
  cases e : listed[i]? with
  | none => rfl
  | some b => rw [e] at h; simpa using h
end Go.Free
namespace Go.Free
theorem back {listed : Array Bool} {i j : Nat} (hne : i ≠ j) (e : (listed.setIfInBounds i true).getD j false = true) : listed.getD j false = true := (set_other hne false).symm.trans e
theorem fore {listed : Array Bool} {i j : Nat} (hne : i ≠ j) (e : listed.getD j false = true) : (listed.setIfInBounds i true).getD j false = true := (set_other hne false).trans e
section
variable {P : Program} {ops : Array Oper} {Q : Exit → Act → World → Prop}
/-- A guarded operation that is wanted. -/
theorem opW {i : Nat} {o : Oper} {K : Act → World → Prop} {a : Act} {w : World} (ho : ops[i]? = some o) (hg : Region.wanted o (yielded ops a.tmps) = true) (h : ∀ K' : Act → World → Prop, (∀ a w, K a w → K' a w) → o.wp P a w K' Q) : wpOp P ops Q i K a w := by
  unfold wpOp
  rw [ho]
  simp only [hg, if_true]
  exact .inl (h _ (fun _ _ h => h))
/-- A guarded operation that is not wanted. -/
theorem opU {i : Nat} {o : Oper} {K : Act → World → Prop} {a : Act} {w : World} (ho : ops[i]? = some o) (hg : Region.wanted o (yielded ops a.tmps) = false) (h : K (a.put o.dst undef) w) : wpOp P ops Q i K a w := by
  unfold wpOp
  rw [ho]
  simp only [hg]
  exact h
end
end Go.Free
namespace Go.Proofs.YtkfalmdckmlneaaGreatDoor
open Go.RowKit
/-- A block of one's own more, that lies behind what there was. -/
theorem Fr.add {w wr w' : World} {l : List (Nat × Int × Int)} {b : Nat} {lo hi : Int} (h : Fr w wr l) (hb : Below wr.heap.size wr w') (hs : Sp w' b lo hi) (hge : wr.heap.size ≤ b) : Fr w w' ((b, lo, hi) :: l) := by
  have h' := h.step hb
  refine ⟨h'.below, ?_, ?_⟩
  · intro x hx
    rcases List.mem_cons.1 hx with rfl | hx
    · exact ⟨Nat.le_trans h.size hge, hs⟩
    · exact h'.mem x hx
  · refine List.pairwise_cons.2 ⟨fun x hx => ?_, h.apart⟩
    have := (h.mem x hx).2.lt
    show b ≠ x.1
    omega
end Go.Proofs.YtkfalmdckmlneaaGreatDoor
namespace Go.Proofs.YtkfalmdckmlneaaGreatDoor
set_option linter.unusedSimpArgs false
open Go.RowKit

/-- The slice value v holds the spans l, in a block below B. -/
def Ls (B : Nat) (w : World) (v : Value) (l : List (Int × Int)) : Prop :=
  ∃ a cap, v = .slice a l.length cap ∧ l.length ≤ cap ∧ (l = [] ∨ ∃ b off, a = some ⟨b, off, none⟩ ∧ b < B ∧ ∀ j, j < l.length → w.cell? ⟨b, off + j * 2, none⟩ = some (.int .i64 (l[j]?.getD (0, 0)).1) ∧ w.cell? ⟨b, off + j * 2 + 1, none⟩ = some (.int .i64 (l[j]?.getD (0, 0)).2))
theorem Ls.keep {B : Nat} {w w' : World} {v : Value} {l : List (Int × Int)} (h : Ls B w v l) (hb : Below B w w') : Ls B w' v l := by
  obtain ⟨a, cap, e, hc0, h2⟩ := h
  refine ⟨a, cap, e, hc0, h2.imp id ?_⟩
  rintro ⟨b, off, e2, hlt, hc⟩
  exact ⟨b, off, e2, hlt, fun j hj => ⟨(hb.cell (p := ⟨b, off + j * 2, none⟩) hlt).trans (hc j hj).1, (hb.cell (p := ⟨b, off + j * 2 + 1, none⟩) hlt).trans (hc j hj).2⟩⟩
theorem Ls.wide {B B' : Nat} {w : World} {v : Value} {l : List (Int × Int)} (h : Ls B w v l) (hb : B ≤ B') : Ls B' w v l := by
  obtain ⟨a, cap, e, hc0, h2⟩ := h
  refine ⟨a, cap, e, hc0, h2.imp id ?_⟩
  rintro ⟨b, off, e2, hlt, hc⟩
  exact ⟨b, off, e2, by omega, hc⟩
/-- Behind a call of someone else's. -/
theorem Ls.step {w w' : World} {v : Value} {l : List (Int × Int)} (h : Ls w.heap.size w v l) (hb : Below w.heap.size w w') : Ls w'.heap.size w' v l := (h.keep hb).wide hb.size
/-- A list that is not empty, written out. -/
theorem Ls.out {B : Nat} {w : World} {v : Value} {l : List (Int × Int)} (h : Ls B w v l) (h0 : l ≠ []) :
    ∃ b off cap, v = .slice (some ⟨b, off, none⟩) l.length cap ∧ l.length ≤ cap ∧ b < B ∧ ∀ j, j < l.length → w.cell? ⟨b, off + j * 2, none⟩ = some (.int .i64 (l[j]?.getD (0, 0)).1) ∧ w.cell? ⟨b, off + j * 2 + 1, none⟩ = some (.int .i64 (l[j]?.getD (0, 0)).2) := by
  obtain ⟨a, cap, e, hc0, h2⟩ := h
  rcases h2 with h2 | ⟨b, off, rfl, hlt, hc⟩
  · exact absurd h2 h0
  · exact ⟨b, off, cap, e, hc0, hlt, hc⟩
theorem Ls.nil (B : Nat) (w : World) : Ls B w (.slice none 0 0) [] := ⟨none, 0, rfl, Nat.le_refl _, .inl rfl⟩
/-- The cells of spans. -/
def cellsOf : List (Int × Int) → List Value
  | [] => []
  | s :: l => .int .i64 s.1 :: .int .i64 s.2 :: cellsOf l
theorem cellsOf_length : ∀ l : List (Int × Int), (cellsOf l).length = l.length * 2
  | [] => rfl
  | _ :: l => by show (cellsOf l).length + 1 + 1 = (l.length + 1) * 2; rw [cellsOf_length l]; omega
theorem cellsOf_append : ∀ l m : List (Int × Int), cellsOf (l ++ m) = cellsOf l ++ cellsOf m
  | [], _ => rfl
  | s :: l, m => by show .int .i64 s.1 :: .int .i64 s.2 :: cellsOf (l ++ m) = _; rw [cellsOf_append l m]; rfl
theorem cellsOf_lo : ∀ (l : List (Int × Int)) (j : Nat), j < l.length → (cellsOf l)[j * 2]? = some (.int .i64 (l[j]?.getD (0, 0)).1)
  | [], _, h => by simp at h
  | s :: l, 0, _ => rfl
  | s :: l, j + 1, h => by
    have i := cellsOf_lo l j (by simpa using h)
    show (.int .i64 s.1 :: .int .i64 s.2 :: cellsOf l)[(j + 1) * 2]? = _
    rw [show (j + 1) * 2 = j * 2 + 1 + 1 by omega]
    simpa using i
theorem cellsOf_hi : ∀ (l : List (Int × Int)) (j : Nat), j < l.length → (cellsOf l)[j * 2 + 1]? = some (.int .i64 (l[j]?.getD (0, 0)).2)
  | [], _, h => by simp at h
  | s :: l, 0, _ => rfl
  | s :: l, j + 1, h => by
    have i := cellsOf_hi l j (by simpa using h)
    show (.int .i64 s.1 :: .int .i64 s.2 :: cellsOf l)[(j + 1) * 2 + 1]? = _
    rw [show (j + 1) * 2 + 1 = j * 2 + 1 + 1 + 1 by omega]
    simpa using i
theorem cellsOf_set : ∀ (l : List (Int × Int)) (j : Nat) (a b : Int), ((cellsOf l).set (j * 2) (.int .i64 a)).set (j * 2 + 1) (.int .i64 b) = cellsOf (l.set j (a, b))
  | [], _, _, _ => rfl
  | s :: l, 0, _, _ => rfl
  | s :: l, j + 1, a, b => by
    have i := cellsOf_set l j a b
    show ((.int .i64 s.1 :: .int .i64 s.2 :: cellsOf l).set ((j + 1) * 2) _).set ((j + 1) * 2 + 1) _ = .int .i64 s.1 :: .int .i64 s.2 :: cellsOf (l.set j (a, b))
    rw [show (j + 1) * 2 + 1 = j * 2 + 1 + 1 + 1 by omega, show (j + 1) * 2 = j * 2 + 1 + 1 by omega]
    simp only [List.set_cons_succ]
    rw [i]
theorem cellsOf_zeros : ∀ n : Nat, (madeCells #[.int .i64 0, .int .i64 0] (n * 2)).toList = cellsOf (List.replicate n (0, 0)) := by
  intro n
  apply List.ext_getElem?
  intro i
  by_cases h : i < n * 2
  · rcases Nat.mod_two_eq_zero_or_one i with e | e
    · have := cellsOf_lo (List.replicate n (0, 0)) (i / 2) (by simp; omega)
      rw [show i / 2 * 2 = i by omega] at this
      rw [this]
      simp [madeCells, h, e, show i / 2 < n by omega]
    · have := cellsOf_hi (List.replicate n (0, 0)) (i / 2) (by simp; omega)
      rw [show i / 2 * 2 + 1 = i by omega] at this
      rw [this]
      simp [madeCells, h, e, show i / 2 < n by omega]
  · have e1 : (madeCells #[Value.int .i64 0, Value.int .i64 0] (n * 2)).toList[i]? = none := List.getElem?_eq_none (by simp [madeCells]; omega)
    have e2 : (cellsOf (List.replicate n (0, 0)))[i]? = none := List.getElem?_eq_none (by rw [cellsOf_length, List.length_replicate]; omega)
    rw [e1, e2]
theorem ls_owns {w : World} {base E : Nat} {v : Value} {l : List (Int × Int)} (h : w.ownsRow base E 2 v l.length (cellsOf l)) : Ls w.heap.size w v l := by
  rcases h.2 with ⟨rfl, h0⟩ | ⟨g, cap, cur, rfl, _, hg, hle, _, hsz, hcur⟩
  · have : l = [] := List.length_eq_zero_iff.1 h0
    subst this; exact Ls.nil _ _
  · refine ⟨_, _, rfl, hle, .inr ⟨g, 0, rfl, (Array.getElem?_eq_some_iff.1 hg).1, fun j hj => ?_⟩⟩
    have key : ∀ i, i < l.length * 2 → w.cell? ⟨g, 0 + i, none⟩ = (cellsOf l)[i]? := by
      intro i hi
      rw [← hcur, List.getElem?_take_of_lt hi, Array.getElem?_toList]
      simp [World.cell?, hg]
    exact ⟨(key (j * 2) (by omega)).trans (cellsOf_lo l j hj), (key (j * 2 + 1) (by omega)).trans (cellsOf_hi l j hj)⟩
/-- The row's block is none from before. -/
theorem owns_from {w : World} {base E size n : Nat} {v : Value} {xs : List Value} (h : w.ownsRow base E size v n xs) : ∀ j, v.ownBlock = some j → base ≤ j := by
  rcases h.2 with ⟨rfl, _⟩ | ⟨g, cap, cur, rfl, hg, _⟩
  · intro j e; cases e
  · intro j e
    have : g = j := by simpa [Value.ownBlock] using e
    omega
/-- From block b, cell off on lie the spans l. -/
def LsAt (w : World) (b off : Nat) (l : List (Int × Int)) : Prop :=
  b < w.heap.size ∧ ∀ j, j < l.length → w.cell? ⟨b, off + j * 2, none⟩ = some (.int .i64 (l[j]?.getD (0, 0)).1) ∧ w.cell? ⟨b, off + j * 2 + 1, none⟩ = some (.int .i64 (l[j]?.getD (0, 0)).2)
theorem Ls.open {w : World} {v : Value} {l : List (Int × Int)} (h : Ls w.heap.size w v l) (h0 : l ≠ []) :
    ∃ b off cap, v = .slice (some ⟨b, off, none⟩) l.length cap ∧ l.length ≤ cap ∧ LsAt w b off l := by
  obtain ⟨b, off, cap, e, hc, hlt, hcs⟩ := h.out h0
  exact ⟨b, off, cap, e, hc, hlt, hcs⟩
theorem LsAt.step {w w' : World} {b off : Nat} {l : List (Int × Int)} (h : LsAt w b off l) (hb : Below w.heap.size w w') : LsAt w' b off l := by
  obtain ⟨hlt, hcs⟩ := h
  exact ⟨Nat.lt_of_lt_of_le hlt hb.size, fun j hj => ⟨(hb.cell (p := ⟨b, off + j * 2, none⟩) hlt).trans (hcs j hj).1, (hb.cell (p := ⟨b, off + j * 2 + 1, none⟩) hlt).trans (hcs j hj).2⟩⟩
theorem LsAt.alloc {w : World} {b off : Nat} {l : List (Int × Int)} (h : LsAt w b off l) (o : Obj) : LsAt (w.alloc o) b off l := h.step ((Below.refl _ _).alloc (Nat.le_refl _) o)
theorem LsAt.drewN {w : World} {b off : Nat} {l : List (Int × Int)} (h : LsAt w b off l) (n : Nat) : LsAt (w.drewN n) b off l := h
theorem LsAt.lo {w : World} {b off : Nat} {l : List (Int × Int)} (h : LsAt w b off l) (j : Nat) {o : Nat} {s : Int × Int} (hj : l[j]? = some s) (ho : o = off + j * 2) : w.cell? ⟨b, o, none⟩ = some (.int .i64 s.1) := by
  subst ho
  have := (h.2 j (List.getElem?_eq_some_iff.1 hj).1).1
  rw [hj] at this; exact this
theorem LsAt.hi {w : World} {b off : Nat} {l : List (Int × Int)} (h : LsAt w b off l) (j : Nat) {o : Nat} {s : Int × Int} (hj : l[j]? = some s) (ho : o = off + j * 2 + 1) : w.cell? ⟨b, o, none⟩ = some (.int .i64 s.2) := by
  subst ho
  have := (h.2 j (List.getElem?_eq_some_iff.1 hj).1).2
  rw [hj] at this; exact this
theorem LsAt.ls {w : World} {b off cap n : Nat} {l : List (Int × Int)} (h : LsAt w b off l) (hn : n = l.length) (hc : n ≤ cap) : Ls w.heap.size w (.slice (some ⟨b, off, none⟩) n cap) l := by
  subst hn
  exact ⟨_, _, rfl, hc, .inr ⟨b, off, rfl, h.1, h.2⟩⟩
end Go.Proofs.YtkfalmdckmlneaaGreatDoor
namespace Go.Proofs.YtkfalmdckmlneaaGreatDoor
set_option linter.unusedSimpArgs false
open Go.RowKit

/-- All blocks from before but the row's are as they were; the row lies where it lay, or in a new block. -/
structure Gro (w : World) (u : Value) (w' : World) (u' : Value) : Prop where
  grown : w.grownBy w' u.ownBlock
  place : ∀ j, u'.ownBlock = some j → u.ownBlock = some j ∨ w.heap.size ≤ j
theorem Gro.trans {a b c : World} {x y z : Value} (h : Gro a x b y) (k : Gro b y c z) : Gro a x c z := by
  refine ⟨⟨k.grown.os.trans h.grown.os, k.grown.tape.trans h.grown.tape, k.grown.output.trans h.grown.output, Nat.le_trans h.grown.size k.grown.size, fun i hi hne => ?_⟩, fun j hj => ?_⟩
  · refine (k.grown.block i (Nat.lt_of_lt_of_le hi h.grown.size) (fun e => ?_)).trans (h.grown.block i hi hne)
    rcases h.place i e.symm with q | q
    · exact hne q.symm
    · omega
  · rcases k.place j hj with q | q
    · exact h.place j q
    · exact .inr (Nat.le_trans h.grown.size q)
/-- Behind a call that leaves all blocks from before as they were. -/
theorem Gro.step {w w' : World} (u : Value) (h : Below w.heap.size w w') : Gro w u w' u := ⟨⟨h.os, h.tape, h.output, h.size, fun k hk _ => h.block k hk⟩, fun _ e => .inl e⟩
theorem Gro.none {w w' : World} {u u' : Value} (h : Gro w u w' u') : Gro w u w' (.slice none 0 0) := ⟨h.grown, fun j e => by cases e⟩
theorem Gro.below {w w' : World} {u u' : Value} {base : Nat} (h : Gro w u w' u') (hb : base ≤ w.heap.size) (hr : ∀ j, u.ownBlock = some j → base ≤ j) : Below base w w' := (Below.refl _ _).grown h.grown hb hr
theorem Gro.sp {w w' : World} {u u' : Value} {b : Nat} {lo hi : Int} (h : Gro w u w' u') (hs : Sp w b lo hi) (hn : ∀ j, u.ownBlock = some j → j ≠ b) : Sp w' b lo hi := by
  have hlt := hs.lt
  unfold Sp at *
  rw [h.grown.block b hlt (fun e => hn b e.symm rfl)]; exact hs
/-- Behind an append. -/
theorem Gro.append {w w' : World} {u u' : Value} (h : w.grownBy w' u.ownBlock) (hat : u'.ownBlock = u.ownBlock ∨ u'.ownBlock = some w.heap.size) : Gro w u w' u' :=
  ⟨h, fun j e => by
    rcases hat with q | q
    · exact .inl (q ▸ e)
    · rw [q] at e; cases e; exact .inr (Nat.le_refl _)⟩
/-- The row lies in none of the blocks from here on. -/
theorem owns_apart {w : World} {base E size n b : Nat} {v : Value} {xs : List Value} (h : w.ownsRow base E size v n xs) (hb : w.heap.size ≤ b) : ∀ j, v.ownBlock = some j → j ≠ b := by
  intro j e
  have := (h.lt j e).2
  omega
/-- What is owned stays so behind a call of someone else's. -/
theorem owns_keep {w w' : World} {base E size n : Nat} {v : Value} {xs : List Value} (h : w.ownsRow base E size v n xs) (hb : Below w.heap.size w w') : w'.ownsRow base E size v n xs := by
  refine ⟨h.1, ?_⟩
  rcases h.2 with h2 | ⟨g, cap, cur, e, hg, hh, h3⟩
  · exact .inl h2
  · exact .inr ⟨g, cap, cur, e, hg, (hb.block g (Array.getElem?_eq_some_iff.1 hh).1).trans hh, h3⟩
/-- The row's value is a slice of so many. -/
theorem owns_slice {w : World} {base E size n : Nat} {v : Value} {xs : List Value} (h : w.ownsRow base E size v n xs) : ∃ a cap, v = .slice a n cap := by
  rcases h.2 with ⟨rfl, rfl⟩ | ⟨g, cap, cur, rfl, _⟩
  · exact ⟨_, _, rfl⟩
  · exact ⟨_, _, rfl⟩
/-- Lists from before, behind what a call of one's own has made. -/
theorem Fr.li {w wr : World} {l : List (Nat × Int × Int)} {v : Value} {p : List Int} (h : Fr w wr l) (hl : Li w.heap.size w v p) : Li wr.heap.size wr v p := (hl.keep h.below).wide h.size
theorem Fr.drewN {w wr : World} {l : List (Nat × Int × Int)} (h : Fr w wr l) (n : Nat) : Fr w (wr.drewN n) l := h.step (below_drewN (Below.refl _ _) n)
theorem Fr.ls {w wr : World} {l : List (Nat × Int × Int)} {v : Value} {q : List (Int × Int)} (h : Fr w wr l) (hs : Ls w.heap.size w v q) : Ls wr.heap.size wr v q := (hs.keep h.below).wide h.size
end Go.Proofs.YtkfalmdckmlneaaGreatDoor
namespace Go.Proofs.YtkfalmdckmlneaaGreatDoor
set_option linter.unusedSimpArgs false
open Go.RowKit

theorem info_int : (Tryz.prog.info? 3).map (fun i => (i.zero, i.size, i.bytes)) = some (some (.int .i64 0), 1, 8) := by kernel_rfl
theorem li_owns {w : World} {base E : Nat} {v : Value} {q : List Int} (h : w.ownsRow base E 1 v q.length (q.map (Value.int .i64))) : Li w.heap.size w v q := by
  rcases h.2 with ⟨rfl, h0⟩ | ⟨g, cap, cur, rfl, _, hg, hle, _, hsz, hcur⟩
  · have : q = [] := List.length_eq_zero_iff.1 h0
    subst this; exact Li.nil _ _
  · refine Li.new hg fun j hj => ?_
    have e := congrArg (fun l : List Value => l[j]?) hcur
    simp only [Nat.mul_one] at e
    rw [List.getElem?_take_of_lt hj, List.getElem?_map, List.getElem?_eq_getElem hj] at e
    rw [← Array.getElem?_toList, e, List.getElem?_eq_getElem hj]
    rfl

theorem own_from {w : World} {base E size n : Nat} {v : Value} {xs : List Value} (h : w.ownsRow base E size v n xs) : ∀ j, v.ownBlock = some j → base ≤ j := by
  rcases h.2 with ⟨rfl, _⟩ | ⟨g, cap, cur, rfl, hg, _⟩
  · intro j e; cases e
  · intro j e
    have : g = j := by simpa [Value.ownBlock] using e
    omega

end Go.Proofs.YtkfalmdckmlneaaGreatDoor
