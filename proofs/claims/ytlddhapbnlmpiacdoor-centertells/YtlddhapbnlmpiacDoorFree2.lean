/-
  A statement that leaves its order open, with a span's new block: what is listed, and the blocks behind it.
-/
import Derived.Test.YtlddhapbnlmpiacDoorFree
import Derived.Test.YtlddhapbnlmpiacDoorFr
namespace Go.Free
theorem back {listed : Array Bool} {i j : Nat} (hne : i ≠ j) (e : (listed.setIfInBounds i true).getD j false = true) : listed.getD j false = true := (set_other hne false).symm.trans e
theorem fore {listed : Array Bool} {i j : Nat} (hne : i ≠ j) (e : listed.getD j false = true) : (listed.setIfInBounds i true).getD j false = true := (set_other hne false).trans e
end Go.Free
namespace Go.Proofs.YtlddhapbnlmpiacDoor
open Go.RowKit
/-- A block of one's own more, that lies behind what there was. -/
theorem Fr.add {w wr w' : World} {l : List (Nat × Int × Int)} {b : Nat} {lo hi : Int} (h : Fr w wr l) (hb : Below wr.heap.size wr w') (hs : Sp w' b lo hi) (hge : wr.heap.size ≤ b) : Fr w w' ((b, lo, hi) :: l) := by
  have h' := h.step hb
  refine ⟨h'.below, ?_, ?_⟩
  · intro x hx
    rcases List.mem_cons.1 hx with rfl | hx
    · exact ⟨Nat.le_trans h.size hge, hs⟩
    · exact h'.mem x hx
  · refine List.pairwise_cons.2 ⟨fun x hx => ?_, h.apart⟩
    have := (h.mem x hx).2.lt
    show b ≠ x.1
    omega
end Go.Proofs.YtlddhapbnlmpiacDoor
