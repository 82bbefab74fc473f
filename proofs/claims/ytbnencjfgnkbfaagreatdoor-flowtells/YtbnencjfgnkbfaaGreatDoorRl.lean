/-
  A row of one's own that holds lists of ints: what it is behind an append.
-/
import Derived.Test.YtbnencjfgnkbfaaGreatDoorLb
namespace Go.Proofs.YtbnencjfgnkbfaaGreatDoor
set_option linter.unusedSimpArgs false
open Go.RowKit

/-- A row of one's own that holds lists of ints: its values lie in other blocks. -/
structure RowL (base : Nat) (T : TypeId) (w : World) (u : Value) (l : List (List Int)) : Prop where
  row : ∃ xs : List Value, w.ownsRow base T 1 u l.length xs ∧ ∀ j, j < l.length → ∃ v, xs[j]? = some v ∧ Li w.heap.size w v (l[j]?.getD []) ∧ ∀ g, v.ownBlock = some g → u.ownBlock ≠ some g
theorem RowL.ll {base : Nat} {T : TypeId} {w : World} {u : Value} {l : List (List Int)} (h : RowL base T w u l) : Ll w.heap.size w u l := by
  obtain ⟨xs, ho, hh⟩ := h.row
  rcases ho.2 with ⟨rfl, h0⟩ | ⟨g, cap, cur, rfl, _, hg, hle, _, hsz, hcur⟩
  · have : l = [] := List.length_eq_zero_iff.1 h0
    subst this; exact Ll.nil _ _
  · refine ⟨_, _, rfl, hle, .inr ⟨g, 0, rfl, (Array.getElem?_eq_some_iff.1 hg).1, fun j hj => ?_⟩⟩
    obtain ⟨v, hv, hl, _⟩ := hh j hj
    refine ⟨v, ?_, hl⟩
    rw [← hcur, List.getElem?_take_of_lt (by omega), Array.getElem?_toList] at hv
    simp [World.cell?, hg, hv]
theorem RowL.step {base : Nat} {T : TypeId} {w w' : World} {u : Value} {l : List (List Int)} (h : RowL base T w u l) (hb : Below w.heap.size w w') : RowL base T w' u l := by
  obtain ⟨xs, ho, hh⟩ := h.row
  refine ⟨xs, owns_keep ho hb, fun j hj => ?_⟩
  obtain ⟨v, hv, hl, hn⟩ := hh j hj
  exact ⟨v, hv, (hl.keep hb).wide hb.size, hn⟩
/-- One list more, behind an append. -/
theorem RowL.more {base : Nat} {T : TypeId} {w w' : World} {u u' v : Value} {l : List (List Int)} {q : List Int} {xs : List Value} (hh : ∀ j, j < l.length → ∃ v, xs[j]? = some v ∧ Li w.heap.size w v (l[j]?.getD []) ∧ ∀ g, v.ownBlock = some g → u.ownBlock ≠ some g) (hx : xs.length = l.length)
    (hv : Li w.heap.size w v q) (hvn : ∀ g, v.ownBlock = some g → u.ownBlock ≠ some g) (hlt : ∀ z : Value, ∀ q, Li w.heap.size w z q → ∀ g, z.ownBlock = some g → q ≠ [] → g < w.heap.size)
    (hq : q ≠ []) (hne : ∀ j, j < l.length → l[j]?.getD [] ≠ [])
    (ho : w'.ownsRow base T 1 u' (l.length + 1) (xs ++ [v])) (hg : w.grownBy w' u.ownBlock) (hat : u'.ownBlock = u.ownBlock ∨ u'.ownBlock = some w.heap.size) : RowL base T w' u' (l ++ [q]) := by
  refine ⟨xs ++ [v], by rw [List.length_append]; exact ho, fun j hj => ?_⟩
  rw [List.length_append] at hj
  have key : ∀ (z : Value) (r : List Int), r ≠ [] → Li w.heap.size w z r → (∀ g, z.ownBlock = some g → u.ownBlock ≠ some g) → Li w'.heap.size w' z r ∧ ∀ g, z.ownBlock = some g → u'.ownBlock ≠ some g := by
    intro z r hr hz hzn
    refine ⟨(hz.grown (Nat.le_refl _) hg hzn).wide hg.size, fun g hg' => ?_⟩
    rcases hat with e | e
    · rw [e]; exact hzn g hg'
    · rw [e]
      intro c
      cases c
      have := hlt z r hz _ hg' hr
      omega
  rcases (by have : j < l.length + 1 := hj; omega : j < l.length ∨ j = l.length) with c | rfl
  · obtain ⟨z, hz, hl, hn⟩ := hh j c
    obtain ⟨k1, k2⟩ := key z _ (hne j c) hl hn
    refine ⟨z, by rw [List.getElem?_append_left (by omega)]; exact hz, ?_, k2⟩
    rw [List.getElem?_append_left c]
    exact k1
  · obtain ⟨k1, k2⟩ := key v q hq hv hvn
    refine ⟨v, by rw [List.getElem?_append_right (by omega), hx, Nat.sub_self]; rfl, ?_, k2⟩
    rw [List.getElem?_append_right (Nat.le_refl _), Nat.sub_self]
    exact k1
theorem info_lists : (Tryz.prog.info? 26).map (fun i => (i.zero, i.size, i.bytes)) = some (some (.slice none 0 0), 1, 24) := by kernel_rfl
theorem li_block {w : World} {v : Value} {q : List Int} (h : Li w.heap.size w v q) (h0 : q ≠ []) : ∀ g, v.ownBlock = some g → g < w.heap.size := by
  obtain ⟨a, cap, rfl, h2⟩ := h
  rcases h2 with h2 | ⟨b, off, rfl, hlt, _⟩
  · exact absurd h2 h0
  intro g hg
  have : b = g := by simpa [Value.ownBlock] using hg
  omega
theorem row_list {E : TypeId} {w : World} {v : Value} {q : List Int} {base b : Nat} (hb : b = w.heap.size) (hbase : base ≤ w.heap.size) (hv : Li w.heap.size w v q) (hq : q ≠ []) : RowL base E (w.alloc (.cells #[v] E)) (.slice (some ⟨b, 0, none⟩) 1 1) [q] := by
  subst hb
  have hbl : Below w.heap.size w (w.alloc (.cells #[v] E)) := (Below.refl _ _).alloc (Nat.le_refl _) _
  refine ⟨[v], ⟨rfl, .inr ⟨w.heap.size, 1, #[v], rfl, hbase, ?_, Nat.le_refl _, by unfold maxLen; omega, rfl, rfl⟩⟩, fun j hj => ?_⟩
  · show (w.heap.push _)[w.heap.size]? = _
    simp
  · obtain rfl : j = 0 := by simpa using hj
    refine ⟨v, rfl, (hv.keep hbl).wide hbl.size, fun g hg => ?_⟩
    have := li_block hv hq g hg
    intro e
    have : w.heap.size = g := by simpa [Value.ownBlock] using e
    omega
end Go.Proofs.YtbnencjfgnkbfaaGreatDoor
