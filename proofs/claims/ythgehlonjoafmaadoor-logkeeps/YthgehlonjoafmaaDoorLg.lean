/-
  A Log in memory: its block, the row of its bytes; what is written by a call of it, and what is not.
-/
import Derived.Test.YthgehlonjoafmaaDoorLu
import Derived.Test.YthgehlonjoafmaaDoorLcode
namespace Um
theorem step_ok {s : LogS} (h : s.Ok) : (stepS s).Ok := by
  unfold stepS
  by_cases h0 : s.left = 0
  · rw [if_pos h0]; exact ⟨h.s1, h.s3, h.box, h.many, h.tail, fun e => (by cases e), h.mark, h.low, h.high⟩
  · rw [if_neg h0]; exact ⟨h.s1, h.s3, h.box, h.many, h.tail, h.on, h.mark, (next_low h.low h.high).1, (next_low h.low h.high).2⟩
end Um
namespace Go.Proofs.YthgehlonjoafmaaDoor
set_option linter.unusedSimpArgs false
open Go.RowKit

/-- The cells of a Log. -/
abbrev logV (s : Um.LogS) (kv : Value) : Array Value := #[.int .i64 (s.sides : Int), kv, .int .i64 (s.safe : Int), .int .i64 s.left, .bool s.stop]
/-- A Log in block p, its bytes in a row of block k. -/
structure Lg (base : Nat) (w : World) (p : Nat) (k : Option Nat) (s : Um.LogS) : Prop where
  ok : s.Ok
  ge : base ≤ p
  cells : ∃ kv : Value, kv.ownBlock = k ∧ Blk w p 50 (logV s kv) ∧ w.ownsRow base 5 1 kv s.bytes.length (bytesV s.bytes)
  apart : k ≠ some p
theorem Lg.step {base : Nat} {w w' : World} {p : Nat} {k : Option Nat} {s : Um.LogS} (h : Lg base w p k s) (hb : Below w.heap.size w w') : Lg base w' p k s := by
  obtain ⟨kv, e, h1, h2⟩ := h.cells
  exact ⟨h.ok, h.ge, ⟨kv, e, h1.step hb, owns_keep h2 hb⟩, h.apart⟩
theorem Lg.lt {base : Nat} {w : World} {p : Nat} {k : Option Nat} {s : Um.LogS} (h : Lg base w p k s) : p < w.heap.size := by
  obtain ⟨kv, e, h1, h2⟩ := h.cells
  exact h1.lt
theorem Lg.from {base : Nat} {w : World} {p : Nat} {k : Option Nat} {s : Um.LogS} (h : Lg base w p k s) : ∀ j, k = some j → base ≤ j ∧ j < w.heap.size := by
  obtain ⟨kv, e, h1, h2⟩ := h.cells
  intro j hj
  exact h2.lt j (e.trans hj)
/-- What a call of a Log writes: its block, and its row, which lies where it lay, or in a new block. -/
structure Wrote (w w' : World) (p : Nat) (k k' : Option Nat) : Prop where
  os : w'.os = w.os
  tape : w'.tape = w.tape
  output : w'.output = w.output
  size : w.heap.size ≤ w'.heap.size
  block : ∀ i, i < w.heap.size → i ≠ p → some i ≠ k → w'.heap[i]? = w.heap[i]?
  place : ∀ j, k' = some j → k = some j ∨ w.heap.size ≤ j
theorem Wrote.none {w w' : World} {p : Nat} {k : Option Nat} (h : Below w.heap.size w w') : Wrote w w' p k k := ⟨h.os, h.tape, h.output, h.size, fun i hi _ _ => h.block i hi, fun _ e => .inl e⟩
theorem Wrote.trans {a b c : World} {p : Nat} {x y z : Option Nat} (h : Wrote a b p x y) (k : Wrote b c p y z) : Wrote a c p x z := by
  refine ⟨k.os.trans h.os, k.tape.trans h.tape, k.output.trans h.output, Nat.le_trans h.size k.size, fun i hi hp hx => ?_, fun j e => ?_⟩
  · refine (k.block i (Nat.lt_of_lt_of_le hi h.size) hp (fun e => ?_)).trans (h.block i hi hp hx)
    rcases h.place i e.symm with q | q
    · exact hx q.symm
    · omega
  · rcases k.place j e with q | q
    · exact h.place j q
    · exact .inr (Nat.le_trans h.size q)
theorem Wrote.set (w : World) (p i : Nat) (k : Option Nat) (v : Value) : Wrote w (w.setCell ⟨p, i, Option.none⟩ v) p k k :=
  ⟨rfl, rfl, rfl, by simp [World.setCell], fun j _ hp _ => Below.heap_setCell w ⟨p, i, Option.none⟩ v j hp, fun _ e => .inl e⟩
theorem Wrote.grown {w w' : World} {p : Nat} {k k' : Option Nat} (h : w.grownBy w' k) (hat : k' = k ∨ k' = some w.heap.size) : Wrote w w' p k k' :=
  ⟨h.os, h.tape, h.output, h.size, fun i hi _ hk => h.block i hi hk, fun j e => by
    rcases hat with q | q
    · exact .inl (q ▸ e)
    · rw [q] at e; cases e; exact .inr (Nat.le_refl _)⟩
/-- The row was laid anew. -/
theorem Wrote.anew {w w' : World} {p : Nat} {k k' : Option Nat} (h : Wrote w w' p k k) (hk : ∀ j, k' = some j → w.heap.size ≤ j) : Wrote w w' p k k' := ⟨h.os, h.tape, h.output, h.size, h.block, fun j e => .inr (hk j e)⟩
theorem Wrote.below {w w' : World} {p base : Nat} {k k' : Option Nat} (h : Wrote w w' p k k') (hp : base ≤ p) (hk : ∀ j, k = some j → base ≤ j) (hb : base ≤ w.heap.size) : Below base w w' :=
  ⟨h.os, h.tape, h.output, h.size, fun i hi => h.block i (by omega) (by omega) (fun e => by have := hk i e.symm; omega)⟩
theorem Lg.below {base : Nat} {w w' : World} {p : Nat} {k k' : Option Nat} {s : Um.LogS} (h : Lg base w p k s) (hw : Wrote w w' p k k') : Below base w w' := hw.below h.ge (fun j e => (h.from j e).1) (Nat.le_of_lt (Nat.lt_of_le_of_lt h.ge h.lt))
/-- A block that is not the Log's. -/
theorem Wrote.other {w w' : World} {p : Nat} {k k' : Option Nat} (h : Wrote w w' p k k') {c : Nat} (hc : c < w.heap.size) (hp : c ≠ p) (hk : k ≠ some c) : w'.heap[c]? = w.heap[c]? ∧ k' ≠ some c :=
  ⟨h.block c hc hp (fun e => hk e.symm), fun e => by
    rcases h.place c e with q | q
    · exact hk q
    · omega⟩
/-- A row stays, behind a store into another block. -/
theorem owns_other {w : World} {base E size n : Nat} {v u : Value} {xs : List Value} (h : w.ownsRow base E size v n xs) {q : Addr} (hq : v.ownBlock ≠ some q.block) : (w.setCell q u).ownsRow base E size v n xs := by
  refine ⟨h.1, ?_⟩
  rcases h.2 with h2 | ⟨g, cap, cur, rfl, hb, hg, h3⟩
  · exact .inl h2
  · refine .inr ⟨g, cap, cur, rfl, hb, ?_, h3⟩
    rw [Below.heap_setCell _ _ _ _ (fun e => hq (by rw [← e]; rfl))]
    exact hg
theorem owns_blk {w w' : World} {base E size n : Nat} {v : Value} {xs : List Value} (h : w.ownsRow base E size v n xs) (hq : ∀ g, v.ownBlock = some g → w'.heap[g]? = w.heap[g]?) : w'.ownsRow base E size v n xs := by
  refine ⟨h.1, ?_⟩
  rcases h.2 with h2 | ⟨g, cap, cur, rfl, hb, hg, h3⟩
  · exact .inl h2
  · exact .inr ⟨g, cap, cur, rfl, hb, (hq g rfl).trans hg, h3⟩
theorem Blk.grown {w w' : World} {b : Nat} {T : TypeId} {cs : Array Value} {o : Option Nat} (h : Blk w b T cs) (hg : w.grownBy w' o) (ho : o ≠ some b) : Blk w' b T cs := by
  have := h.lt
  unfold Blk at *
  rw [hg.block b this (fun e => ho e.symm)]; exact h
/-- A store into the Log's own block. -/
theorem Lg.put {base : Nat} {w' : World} {p : Nat} {s' : Um.LogS} {kv' : Value} (hok : s'.Ok) (hge : base ≤ p) (hb : Blk w' p 50 (logV s' kv')) (ho : w'.ownsRow base 5 1 kv' s'.bytes.length (bytesV s'.bytes)) (ha : kv'.ownBlock ≠ some p) : Lg base w' p kv'.ownBlock s' := ⟨hok, hge, ⟨kv', rfl, hb, ho⟩, ha⟩
end Go.Proofs.YthgehlonjoafmaaDoor
