/-
  A list of boxes in memory, and a list of lists of ints: what is read of them, what they are behind a call.
-/
import Derived.Test.YtbnencjfgnkbfaaGreatDoorMems
namespace Go.Proofs.YtbnencjfgnkbfaaGreatDoor
set_option linter.unusedSimpArgs false
open Go.RowKit

/-- The slice value v holds these boxes, one behind the other, all in blocks below B. -/
def Lb (B : Nat) (w : World) (v : Value) (l : List (List (Int × Int))) : Prop :=
  ∃ a cap, v = .slice a l.length cap ∧ l.length ≤ cap ∧ (l = [] ∨ ∃ b off, a = some ⟨b, off, none⟩ ∧ b < B ∧ ∀ j, j < l.length → ∃ u, w.cell? ⟨b, off + j, none⟩ = some u ∧ Ls B w u (l[j]?.getD []))
theorem Lb.keep {B : Nat} {w w' : World} {v : Value} {l : List (List (Int × Int))} (h : Lb B w v l) (hb : Below B w w') : Lb B w' v l := by
  obtain ⟨a, cap, e, hc, h2⟩ := h
  refine ⟨a, cap, e, hc, h2.imp id ?_⟩
  rintro ⟨b, off, e2, hlt, hh⟩
  refine ⟨b, off, e2, hlt, fun j hj => ?_⟩
  obtain ⟨u, hu, hl⟩ := hh j hj
  exact ⟨u, (hb.cell (p := ⟨b, off + j, none⟩) hlt).trans hu, hl.keep hb⟩
theorem Lb.wide {B B' : Nat} {w : World} {v : Value} {l : List (List (Int × Int))} (h : Lb B w v l) (hb : B ≤ B') : Lb B' w v l := by
  obtain ⟨a, cap, e, hc, h2⟩ := h
  refine ⟨a, cap, e, hc, h2.imp id ?_⟩
  rintro ⟨b, off, e2, hlt, hh⟩
  refine ⟨b, off, e2, by omega, fun j hj => ?_⟩
  obtain ⟨u, hu, hl⟩ := hh j hj
  exact ⟨u, hu, hl.wide hb⟩
theorem Lb.step {w w' : World} {v : Value} {l : List (List (Int × Int))} (h : Lb w.heap.size w v l) (hb : Below w.heap.size w w') : Lb w'.heap.size w' v l := (h.keep hb).wide hb.size
theorem Lb.nil (B : Nat) (w : World) : Lb B w (.slice none 0 0) [] := ⟨none, 0, rfl, Nat.le_refl _, .inl rfl⟩
theorem Fr.lb {w wr : World} {m : List (Nat × Int × Int)} {v : Value} {l : List (List (Int × Int))} (h : Fr w wr m) (hs : Lb w.heap.size w v l) : Lb wr.heap.size wr v l := (hs.keep h.below).wide h.size
theorem Lb.open {w : World} {v : Value} {l : List (List (Int × Int))} (h : Lb w.heap.size w v l) (h0 : l ≠ []) :
    ∃ b off cap, v = .slice (some ⟨b, off, none⟩) l.length cap ∧ l.length ≤ cap ∧ b < w.heap.size ∧ ∀ j, j < l.length → ∃ u, w.cell? ⟨b, off + j, none⟩ = some u ∧ Ls w.heap.size w u (l[j]?.getD []) := by
  obtain ⟨a, cap, e, hc, h2⟩ := h
  rcases h2 with h2 | ⟨b, off, rfl, hlt, hh⟩
  · exact absurd h2 h0
  · exact ⟨b, off, cap, e, hc, hlt, hh⟩
/-- The slice value v holds these lists of ints, all in blocks below B. -/
def Ll (B : Nat) (w : World) (v : Value) (l : List (List Int)) : Prop :=
  ∃ a cap, v = .slice a l.length cap ∧ l.length ≤ cap ∧ (l = [] ∨ ∃ b off, a = some ⟨b, off, none⟩ ∧ b < B ∧ ∀ j, j < l.length → ∃ u, w.cell? ⟨b, off + j, none⟩ = some u ∧ Li B w u (l[j]?.getD []))
theorem Ll.keep {B : Nat} {w w' : World} {v : Value} {l : List (List Int)} (h : Ll B w v l) (hb : Below B w w') : Ll B w' v l := by
  obtain ⟨a, cap, e, hc, h2⟩ := h
  refine ⟨a, cap, e, hc, h2.imp id ?_⟩
  rintro ⟨b, off, e2, hlt, hh⟩
  refine ⟨b, off, e2, hlt, fun j hj => ?_⟩
  obtain ⟨u, hu, hl⟩ := hh j hj
  exact ⟨u, (hb.cell (p := ⟨b, off + j, none⟩) hlt).trans hu, hl.keep hb⟩
theorem Ll.wide {B B' : Nat} {w : World} {v : Value} {l : List (List Int)} (h : Ll B w v l) (hb : B ≤ B') : Ll B' w v l := by
  obtain ⟨a, cap, e, hc, h2⟩ := h
  refine ⟨a, cap, e, hc, h2.imp id ?_⟩
  rintro ⟨b, off, e2, hlt, hh⟩
  refine ⟨b, off, e2, by omega, fun j hj => ?_⟩
  obtain ⟨u, hu, hl⟩ := hh j hj
  exact ⟨u, hu, hl.wide hb⟩
theorem Ll.step {w w' : World} {v : Value} {l : List (List Int)} (h : Ll w.heap.size w v l) (hb : Below w.heap.size w w') : Ll w'.heap.size w' v l := (h.keep hb).wide hb.size
theorem Ll.nil (B : Nat) (w : World) : Ll B w (.slice none 0 0) [] := ⟨none, 0, rfl, Nat.le_refl _, .inl rfl⟩
theorem Fr.ll {w wr : World} {m : List (Nat × Int × Int)} {v : Value} {l : List (List Int)} (h : Fr w wr m) (hs : Ll w.heap.size w v l) : Ll wr.heap.size wr v l := (hs.keep h.below).wide h.size
theorem Ll.open {w : World} {v : Value} {l : List (List Int)} (h : Ll w.heap.size w v l) (h0 : l ≠ []) :
    ∃ b off cap, v = .slice (some ⟨b, off, none⟩) l.length cap ∧ l.length ≤ cap ∧ b < w.heap.size ∧ ∀ j, j < l.length → ∃ u, w.cell? ⟨b, off + j, none⟩ = some u ∧ Li w.heap.size w u (l[j]?.getD []) := by
  obtain ⟨a, cap, e, hc, h2⟩ := h
  rcases h2 with h2 | ⟨b, off, rfl, hlt, hh⟩
  · exact absurd h2 h0
  · exact ⟨b, off, cap, e, hc, hlt, hh⟩
/-- The blocks that are not the row's are as they were behind an append. -/
theorem Ls.grown {B : Nat} {w w' : World} {v : Value} {q : List (Int × Int)} {o : Option Nat} (h : Ls B w v q) (hB : B ≤ w.heap.size) (hg : w.grownBy w' o) (hn : ∀ g, v.ownBlock = some g → o ≠ some g) : Ls B w' v q := by
  obtain ⟨a, cap, e, hc, h2⟩ := h
  refine ⟨a, cap, e, hc, h2.imp id ?_⟩
  rintro ⟨b, off, e2, hlt, hh⟩
  have hne : o ≠ some b := hn b (by rw [e, e2]; rfl)
  have hbk := hg.block b (Nat.lt_of_lt_of_le hlt hB) (fun e => hne e.symm)
  refine ⟨b, off, e2, hlt, fun j hj => ?_⟩
  have hcell : ∀ i, w'.cell? ⟨b, i, none⟩ = w.cell? ⟨b, i, none⟩ := fun i => by unfold World.cell?; rw [hbk]
  rw [hcell, hcell]
  exact hh j hj
theorem Li.grown {B : Nat} {w w' : World} {v : Value} {q : List Int} {o : Option Nat} (h : Li B w v q) (hB : B ≤ w.heap.size) (hg : w.grownBy w' o) (hn : ∀ g, v.ownBlock = some g → o ≠ some g) : Li B w' v q := by
  obtain ⟨a, cap, e, h2⟩ := h
  refine ⟨a, cap, e, h2.imp id ?_⟩
  rintro ⟨b, off, e2, hlt, hh⟩
  have hne : o ≠ some b := hn b (by rw [e, e2]; rfl)
  have hbk := hg.block b (Nat.lt_of_lt_of_le hlt hB) (fun e => hne e.symm)
  refine ⟨b, off, e2, hlt, fun j hj => ?_⟩
  have hcell : ∀ i, w'.cell? ⟨b, i, none⟩ = w.cell? ⟨b, i, none⟩ := fun i => by unfold World.cell?; rw [hbk]
  rw [hcell]
  exact hh j hj
/-- A row of one's own that holds boxes: its values lie in other blocks. -/
structure RowB (base : Nat) (T : TypeId) (w : World) (u : Value) (l : List (List (Int × Int))) : Prop where
  row : ∃ xs : List Value, w.ownsRow base T 1 u l.length xs ∧ ∀ j, j < l.length → ∃ v, xs[j]? = some v ∧ Ls w.heap.size w v (l[j]?.getD []) ∧ ∀ g, v.ownBlock = some g → u.ownBlock ≠ some g
theorem RowB.lb {base : Nat} {T : TypeId} {w : World} {u : Value} {l : List (List (Int × Int))} (h : RowB base T w u l) : Lb w.heap.size w u l := by
  obtain ⟨xs, ho, hh⟩ := h.row
  rcases ho.2 with ⟨rfl, h0⟩ | ⟨g, cap, cur, rfl, _, hg, hle, _, hsz, hcur⟩
  · have : l = [] := List.length_eq_zero_iff.1 h0
    subst this; exact Lb.nil _ _
  · refine ⟨_, _, rfl, hle, .inr ⟨g, 0, rfl, (Array.getElem?_eq_some_iff.1 hg).1, fun j hj => ?_⟩⟩
    obtain ⟨v, hv, hl, _⟩ := hh j hj
    refine ⟨v, ?_, hl⟩
    rw [← hcur, List.getElem?_take_of_lt (by omega), Array.getElem?_toList] at hv
    simp [World.cell?, hg, hv]
theorem RowB.step {base : Nat} {T : TypeId} {w w' : World} {u : Value} {l : List (List (Int × Int))} (h : RowB base T w u l) (hb : Below w.heap.size w w') : RowB base T w' u l := by
  obtain ⟨xs, ho, hh⟩ := h.row
  refine ⟨xs, owns_keep ho hb, fun j hj => ?_⟩
  obtain ⟨v, hv, hl, hn⟩ := hh j hj
  exact ⟨v, hv, hl.step hb, hn⟩
/-- One box more, behind an append. -/
theorem RowB.more {base : Nat} {T : TypeId} {w w' : World} {u u' v : Value} {l : List (List (Int × Int))} {q : List (Int × Int)} {xs : List Value} (hh : ∀ j, j < l.length → ∃ v, xs[j]? = some v ∧ Ls w.heap.size w v (l[j]?.getD []) ∧ ∀ g, v.ownBlock = some g → u.ownBlock ≠ some g) (hx : xs.length = l.length)
    (hv : Ls w.heap.size w v q) (hvn : ∀ g, v.ownBlock = some g → u.ownBlock ≠ some g) (hlt : ∀ z : Value, ∀ q, Ls w.heap.size w z q → ∀ g, z.ownBlock = some g → q ≠ [] → g < w.heap.size)
    (hq : q ≠ []) (hne : ∀ j, j < l.length → l[j]?.getD [] ≠ [])
    (ho : w'.ownsRow base T 1 u' (l.length + 1) (xs ++ [v])) (hg : w.grownBy w' u.ownBlock) (hat : u'.ownBlock = u.ownBlock ∨ u'.ownBlock = some w.heap.size) : RowB base T w' u' (l ++ [q]) := by
  refine ⟨xs ++ [v], by rw [List.length_append]; exact ho, fun j hj => ?_⟩
  rw [List.length_append] at hj
  have key : ∀ (z : Value) (r : List (Int × Int)), r ≠ [] → Ls w.heap.size w z r → (∀ g, z.ownBlock = some g → u.ownBlock ≠ some g) → Ls w'.heap.size w' z r ∧ ∀ g, z.ownBlock = some g → u'.ownBlock ≠ some g := by
    intro z r hr hz hzn
    refine ⟨(hz.grown (Nat.le_refl _) hg hzn).wide hg.size, fun g hg' => ?_⟩
    rcases hat with e | e
    · rw [e]; exact hzn g hg'
    · rw [e]
      intro c
      cases c
      have := hlt z r hz _ hg' hr
      omega
  rcases (by have : j < l.length + 1 := hj; omega : j < l.length ∨ j = l.length) with c | rfl
  · obtain ⟨z, hz, hl, hn⟩ := hh j c
    obtain ⟨k1, k2⟩ := key z _ (hne j c) hl hn
    refine ⟨z, by rw [List.getElem?_append_left (by omega)]; exact hz, ?_, k2⟩
    rw [List.getElem?_append_left c]
    exact k1
  · obtain ⟨k1, k2⟩ := key v q hq hv hvn
    refine ⟨v, by rw [List.getElem?_append_right (by omega), hx, Nat.sub_self]; rfl, ?_, k2⟩
    rw [List.getElem?_append_right (Nat.le_refl _), Nat.sub_self]
    exact k1
theorem ls_block {w : World} {v : Value} {q : List (Int × Int)} (h : Ls w.heap.size w v q) (h0 : q ≠ []) : ∀ g, v.ownBlock = some g → g < w.heap.size := by
  obtain ⟨b, off, cap, rfl, _, hlt, _⟩ := h.out h0
  intro g hg
  have : b = g := by simpa [Value.ownBlock] using hg
  omega
end Go.Proofs.YtbnencjfgnkbfaaGreatDoor
