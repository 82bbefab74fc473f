/-
  Spans of a call's own in memory, one block each: what is read of each of them behind calls, new blocks and stores.
-/
import Derived.Test.YtlddhapbnlmpiacDoorMem
namespace Go.Proofs.YtlddhapbnlmpiacDoor
set_option linter.unusedSimpArgs false
open Go.RowKit

/-- Blocks of one's own, each with its span; no block from before is other than it was. -/
structure Fr (w wr : World) (l : List (Nat × Int × Int)) : Prop where
  below : Below w.heap.size w wr
  mem : ∀ x ∈ l, w.heap.size ≤ x.1 ∧ Sp wr x.1 x.2.1 x.2.2
  apart : l.Pairwise (fun a b => a.1 ≠ b.1)
theorem Fr.start (w : World) : Fr w w [] := ⟨Below.refl _ _, by simp, List.Pairwise.nil⟩
theorem Fr.size {w wr : World} {l : List (Nat × Int × Int)} (h : Fr w wr l) : w.heap.size ≤ wr.heap.size := h.below.size
theorem Fr.step {w wr w' : World} {l : List (Nat × Int × Int)} (h : Fr w wr l) (hb : Below wr.heap.size wr w') : Fr w w' l :=
  ⟨h.below.trans (hb.mono h.below.size), fun x hx => ⟨(h.mem x hx).1, (h.mem x hx).2.step hb⟩, h.apart⟩
theorem Fr.alloc {w wr : World} {l : List (Nat × Int × Int)} (h : Fr w wr l) (o : Obj) : Fr w (wr.alloc o) l :=
  h.step ((Below.refl _ _).alloc (Nat.le_refl _) o)
theorem Fr.push {w wr : World} {l : List (Nat × Int × Int)} (h : Fr w wr l) {b : Nat} (lo hi : Int) (hb : b = wr.heap.size) : Fr w (wr.alloc (.cells #[.int .i64 lo, .int .i64 hi] 24)) ((b, lo, hi) :: l) := by
  subst hb
  refine ⟨h.below.alloc h.below.size _, ?_, ?_⟩
  · intro x hx
    rcases List.mem_cons.1 hx with rfl | hx
    · exact ⟨h.below.size, Sp.new _ _ _⟩
    · exact ⟨(h.mem x hx).1, (h.mem x hx).2.alloc _⟩
  · refine List.pairwise_cons.2 ⟨fun x hx => ?_, h.apart⟩
    have := (h.mem x hx).2.lt
    show wr.heap.size ≠ x.1
    omega
theorem Fr.at {w wr : World} {l : List (Nat × Int × Int)} (h : Fr w wr l) (i : Nat) {b : Nat} {lo hi : Int} (hi' : l[i]? = some (b, lo, hi)) : Sp wr b lo hi := (h.mem _ (List.mem_of_getElem? hi')).2
theorem Fr.from {w wr : World} {l : List (Nat × Int × Int)} (h : Fr w wr l) (i : Nat) {b : Nat} {lo hi : Int} (hi' : l[i]? = some (b, lo, hi)) : w.heap.size ≤ b := (h.mem _ (List.mem_of_getElem? hi')).1
theorem Fr.put {w wr : World} {l l' : List (Nat × Int × Int)} (h : Fr w wr l) (i : Nat) {b : Nat} {lo hi : Int} (hi' : l[i]? = some (b, lo, hi)) (c d : Int) (hl : l.set i (b, c, d) = l') :
    Fr w ((wr.setCell ⟨b, 0, none⟩ (.int .i64 c)).setCell ⟨b, 1, none⟩ (.int .i64 d)) l' := by
  subst hl
  have hs := h.at i hi'
  have hf := h.from i hi'
  obtain ⟨hlt, hg⟩ := List.getElem?_eq_some_iff.1 hi'
  refine ⟨(h.below.setCell hf _).setCell hf _, ?_, ?_⟩
  · intro x hx
    obtain ⟨j, hj, rfl⟩ := List.getElem_of_mem hx
    rw [List.length_set] at hj
    by_cases e : i = j
    · subst e
      rw [List.getElem_set_self]
      exact ⟨hf, hs.set c d⟩
    · rw [List.getElem_set_ne e]
      have hm := h.mem l[j] (List.getElem_mem hj)
      have hne : (l[j]).1 ≠ b := by
        have hp := List.pairwise_iff_getElem.1 h.apart
        have eb : (l[i]).1 = b := by rw [hg]
        rcases (by omega : i < j ∨ j < i) with q | q
        · have := hp i j hlt hj q; omega
        · have := hp j i hj hlt q; omega
      exact ⟨hm.1, (hm.2.other _ _ hne).other _ _ hne⟩
  · rw [List.pairwise_iff_getElem]
    intro a b' ha hb' hab
    rw [List.length_set] at ha hb'
    have hp := List.pairwise_iff_getElem.1 h.apart a b' ha hb' hab
    have key : ∀ k (hk : k < l.length), ((l.set i (b, c, d))[k]'(by rw [List.length_set]; exact hk)).1 = (l[k]).1 := by
      intro k hk
      by_cases e : i = k
      · subst e; rw [List.getElem_set_self, hg]
      · rw [List.getElem_set_ne e]
    rw [key a ha, key b' hb']
    exact hp
theorem Fr.drop {w wr : World} {l : List (Nat × Int × Int)} {x : Nat × Int × Int} (h : Fr w wr (x :: l)) : Fr w wr l :=
  ⟨h.below, fun y hy => h.mem y (List.mem_cons_of_mem _ hy), (List.pairwise_cons.1 h.apart).2⟩
end Go.Proofs.YtlddhapbnlmpiacDoor
