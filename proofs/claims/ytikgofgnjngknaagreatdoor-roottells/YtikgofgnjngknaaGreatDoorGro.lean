/-
  A row of the call's own that grows from call to call: which blocks stay as they were, and where the row lies.
-/
import Derived.Test.YtikgofgnjngknaaGreatDoorMems
import Derived.Maps.AppendAt
import Derived.Below
namespace Go.Proofs.YtikgofgnjngknaaGreatDoor
set_option linter.unusedSimpArgs false
open Go.RowKit

/-- All blocks from before but the row's are as they were; the row lies where it lay, or in a new block. -/
structure Gro (w : World) (u : Value) (w' : World) (u' : Value) : Prop where
  grown : w.grownBy w' u.ownBlock
  place : ∀ j, u'.ownBlock = some j → u.ownBlock = some j ∨ w.heap.size ≤ j
theorem Gro.trans {a b c : World} {x y z : Value} (h : Gro a x b y) (k : Gro b y c z) : Gro a x c z := by
  refine ⟨⟨k.grown.os.trans h.grown.os, k.grown.tape.trans h.grown.tape, k.grown.output.trans h.grown.output, Nat.le_trans h.grown.size k.grown.size, fun i hi hne => ?_⟩, fun j hj => ?_⟩
  · refine (k.grown.block i (Nat.lt_of_lt_of_le hi h.grown.size) (fun e => ?_)).trans (h.grown.block i hi hne)
    rcases h.place i e.symm with q | q
    · exact hne q.symm
    · omega
  · rcases k.place j hj with q | q
    · exact h.place j q
    · exact .inr (Nat.le_trans h.grown.size q)
/-- Behind a call that leaves all blocks from before as they were. -/
theorem Gro.step {w w' : World} (u : Value) (h : Below w.heap.size w w') : Gro w u w' u := ⟨⟨h.os, h.tape, h.output, h.size, fun k hk _ => h.block k hk⟩, fun _ e => .inl e⟩
theorem Gro.none {w w' : World} {u u' : Value} (h : Gro w u w' u') : Gro w u w' (.slice none 0 0) := ⟨h.grown, fun j e => by cases e⟩
theorem Gro.below {w w' : World} {u u' : Value} {base : Nat} (h : Gro w u w' u') (hb : base ≤ w.heap.size) (hr : ∀ j, u.ownBlock = some j → base ≤ j) : Below base w w' := (Below.refl _ _).grown h.grown hb hr
theorem Gro.sp {w w' : World} {u u' : Value} {b : Nat} {lo hi : Int} (h : Gro w u w' u') (hs : Sp w b lo hi) (hn : ∀ j, u.ownBlock = some j → j ≠ b) : Sp w' b lo hi := by
  have hlt := hs.lt
  unfold Sp at *
  rw [h.grown.block b hlt (fun e => hn b e.symm rfl)]; exact hs
/-- Behind an append. -/
theorem Gro.append {w w' : World} {u u' : Value} (h : w.grownBy w' u.ownBlock) (hat : u'.ownBlock = u.ownBlock ∨ u'.ownBlock = some w.heap.size) : Gro w u w' u' :=
  ⟨h, fun j e => by
    rcases hat with q | q
    · exact .inl (q ▸ e)
    · rw [q] at e; cases e; exact .inr (Nat.le_refl _)⟩
/-- The row lies in none of the blocks from here on. -/
theorem owns_apart {w : World} {base E size n b : Nat} {v : Value} {xs : List Value} (h : w.ownsRow base E size v n xs) (hb : w.heap.size ≤ b) : ∀ j, v.ownBlock = some j → j ≠ b := by
  intro j e
  have := (h.lt j e).2
  omega
/-- What is owned stays so behind a call of someone else's. -/
theorem owns_keep {w w' : World} {base E size n : Nat} {v : Value} {xs : List Value} (h : w.ownsRow base E size v n xs) (hb : Below w.heap.size w w') : w'.ownsRow base E size v n xs := by
  refine ⟨h.1, ?_⟩
  rcases h.2 with h2 | ⟨g, cap, cur, e, hg, hh, h3⟩
  · exact .inl h2
  · exact .inr ⟨g, cap, cur, e, hg, (hb.block g (Array.getElem?_eq_some_iff.1 hh).1).trans hh, h3⟩
/-- The row's value is a slice of so many. -/
theorem owns_slice {w : World} {base E size n : Nat} {v : Value} {xs : List Value} (h : w.ownsRow base E size v n xs) : ∃ a cap, v = .slice a n cap := by
  rcases h.2 with ⟨rfl, rfl⟩ | ⟨g, cap, cur, rfl, _⟩
  · exact ⟨_, _, rfl⟩
  · exact ⟨_, _, rfl⟩
end Go.Proofs.YtikgofgnjngknaaGreatDoor
