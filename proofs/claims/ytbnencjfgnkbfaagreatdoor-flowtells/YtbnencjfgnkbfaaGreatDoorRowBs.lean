/-
  A row of one's own that holds boxes: its first one, and two more at once.
-/
import Derived.Test.YtbnencjfgnkbfaaGreatDoorLb
namespace Go.Proofs.YtbnencjfgnkbfaaGreatDoor
set_option linter.unusedSimpArgs false
open Go.RowKit

theorem info_boxes : (Tryz.prog.info? 23).map (fun i => (i.zero, i.size, i.bytes)) = some (some (.slice none 0 0), 1, 24) := by kernel_rfl
theorem row_first {w : World} {v : Value} {q : List (Int × Int)} {base b : Nat} (hb : b = w.heap.size) (hbase : base ≤ w.heap.size) (hv : Ls w.heap.size w v q) (hq : q ≠ []) : RowB base 23 (w.alloc (.cells #[v] 23)) (.slice (some ⟨b, 0, none⟩) 1 1) [q] := by
  subst hb
  refine ⟨[v], ⟨rfl, .inr ⟨w.heap.size, 1, #[v], rfl, hbase, ?_, Nat.le_refl _, by unfold maxLen; omega, rfl, rfl⟩⟩, fun j hj => ?_⟩
  · show (w.heap.push _)[w.heap.size]? = _
    simp
  · obtain rfl : j = 0 := by simpa using hj
    refine ⟨v, rfl, hv.step ((Below.refl _ _).alloc (Nat.le_refl _) _), fun g hg => ?_⟩
    have := ls_block hv hq g hg
    intro e
    have : w.heap.size = g := by simpa [Value.ownBlock] using e
    omega
/-- Two boxes more, behind an append. -/
theorem RowB.more2 {base : Nat} {T : TypeId} {w w' : World} {u u' v1 v2 : Value} {l : List (List (Int × Int))} {q1 q2 : List (Int × Int)} {xs : List Value} (hh : ∀ j, j < l.length → ∃ v, xs[j]? = some v ∧ Ls w.heap.size w v (l[j]?.getD []) ∧ ∀ g, v.ownBlock = some g → u.ownBlock ≠ some g) (hx : xs.length = l.length)
    (hv1 : Ls w.heap.size w v1 q1) (hn1 : ∀ g, v1.ownBlock = some g → u.ownBlock ≠ some g) (hv2 : Ls w.heap.size w v2 q2) (hn2 : ∀ g, v2.ownBlock = some g → u.ownBlock ≠ some g)
    (hq1 : q1 ≠ []) (hq2 : q2 ≠ []) (hne : ∀ j, j < l.length → l[j]?.getD [] ≠ [])
    (ho : w'.ownsRow base T 1 u' (l.length + 2) (xs ++ [v1, v2])) (hg : w.grownBy w' u.ownBlock) (hat : u'.ownBlock = u.ownBlock ∨ u'.ownBlock = some w.heap.size) : RowB base T w' u' (l ++ [q1, q2]) := by
  refine ⟨xs ++ [v1, v2], by rw [List.length_append]; exact ho, fun j hj => ?_⟩
  rw [List.length_append] at hj
  have key : ∀ (z : Value) (r : List (Int × Int)), r ≠ [] → Ls w.heap.size w z r → (∀ g, z.ownBlock = some g → u.ownBlock ≠ some g) → Ls w'.heap.size w' z r ∧ ∀ g, z.ownBlock = some g → u'.ownBlock ≠ some g := by
    intro z r hr hz hzn
    refine ⟨(hz.grown (Nat.le_refl _) hg hzn).wide hg.size, fun g hg' => ?_⟩
    rcases hat with e | e
    · rw [e]; exact hzn g hg'
    · rw [e]
      intro c
      cases c
      have := ls_block hz hr _ hg'
      omega
  rcases (by have : j < l.length + 2 := hj; omega : j < l.length ∨ j = l.length ∨ j = l.length + 1) with c | rfl | rfl
  · obtain ⟨z, hz, hl, hn⟩ := hh j c
    obtain ⟨k1, k2⟩ := key z _ (hne j c) hl hn
    refine ⟨z, by rw [List.getElem?_append_left (by omega)]; exact hz, ?_, k2⟩
    rw [List.getElem?_append_left c]
    exact k1
  · obtain ⟨k1, k2⟩ := key v1 q1 hq1 hv1 hn1
    refine ⟨v1, by rw [List.getElem?_append_right (by omega), hx, Nat.sub_self]; rfl, ?_, k2⟩
    rw [List.getElem?_append_right (Nat.le_refl _), Nat.sub_self]
    exact k1
  · obtain ⟨k1, k2⟩ := key v2 q2 hq2 hv2 hn2
    refine ⟨v2, by rw [List.getElem?_append_right (by omega), hx, Nat.add_sub_cancel_left]; rfl, ?_, k2⟩
    rw [List.getElem?_append_right (by omega), Nat.add_sub_cancel_left]
    exact k1
end Go.Proofs.YtbnencjfgnkbfaaGreatDoor
