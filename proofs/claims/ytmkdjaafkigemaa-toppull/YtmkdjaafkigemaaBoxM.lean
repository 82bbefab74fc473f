/-
  What package box answers: Hull, Meet at every argument.
-/
import Derived.Test.YtmkdjaafkigemaaBoxC
import Derived.Test.YtmkdjaafkigemaaSpanHull
import Derived.Test.YtmkdjaafkigemaaMems
namespace Um
/-- What is made side by side, of the first k sides; the first fault. -/
def sideN (R : Nat → Int × Int × Int) : Nat → List (Int × Int) × Int
  | 0 => ([], 0)
  | k + 1 => if (sideN R k).2 = 0 then (if (R k).2.2 = 0 then ((sideN R k).1 ++ [((R k).1, (R k).2.1)], 0) else ([], (R k).2.2)) else sideN R k
theorem side_next {R : Nat → Int × Int × Int} {k : Nat} (h : (sideN R k).2 = 0) (h2 : (R k).2.2 = 0) : sideN R (k + 1) = ((sideN R k).1 ++ [((R k).1, (R k).2.1)], 0) := by
  show (if (sideN R k).2 = 0 then _ else _) = _
  rw [if_pos h, if_pos h2]
theorem side_bad {R : Nat → Int × Int × Int} {k : Nat} (h : (sideN R k).2 = 0) (h2 : ¬ (R k).2.2 = 0) : ∀ {n : Nat}, k < n → sideN R n = ([], (R k).2.2) := by
  intro n hn
  induction n with
  | zero => omega
  | succ n ih =>
    show (if (sideN R n).2 = 0 then _ else _) = _
    rcases (by omega : k = n ∨ k < n) with rfl | q
    · rw [if_pos h, if_neg h2]
    · rw [ih q, if_neg h2]
theorem hull_all {a b : List (Int × Int)} (h : boxesF a b = 0) : ∀ k, k ≤ a.length → sideN (fun k => made (hullR (sd a k).1 (sd a k).2 (sd b k).1 (sd b k).2) (sd a k).1 (sd a k).2 (sd b k).1 (sd b k).2) k = (hullN a b k, 0)
  | 0, _ => rfl
  | k + 1, hk => by
    have ih := hull_all h k (by omega)
    obtain ⟨ha, hb, hl⟩ := boxes_ok.1 h
    have e := made_good (R := hullR (sd a k).1 (sd a k).2 (sd b k).1 (sd b k).2) (box_side ha (show k < a.length by omega)) (box_side hb (show k < b.length by omega))
    rw [side_next (by rw [ih]) (by simp only [e]; rfl), ih]
    simp only [e]
    rfl
theorem meet_all {a b : List (Int × Int)} (h : boxesF a b = 0) : ∀ k, k ≤ a.length → sideN (fun k => made (meetR (sd a k).1 (sd a k).2 (sd b k).1 (sd b k).2) (sd a k).1 (sd a k).2 (sd b k).1 (sd b k).2) k = meetN a b k
  | 0, _ => rfl
  | k + 1, hk => by
    have ih := meet_all h k (by omega)
    obtain ⟨ha, hb, hl⟩ := boxes_ok.1 h
    have e := made_good (R := meetR (sd a k).1 (sd a k).2 (sd b k).1 (sd b k).2) (box_side ha (show k < a.length by omega)) (box_side hb (show k < b.length by omega))
    by_cases h0 : (meetN a b k).2 = 0
    · by_cases hm : max (sd a k).1 (sd b k).1 ≤ min (sd a k).2 (sd b k).2
      · rw [side_next (by rw [ih]; exact h0) (by simp only [e]; rw [meet_yes hm]), ih, meetN_next h0 hm]
        simp only [e]
        rw [meet_yes hm]
      · rw [side_bad (k := k) (by rw [ih]; exact h0) (by simp only [e]; rw [meet_no hm]; decide) (Nat.lt_succ_self k), meetN_bad (Nat.lt_succ_self k) hm]
        simp only [e]
        rw [meet_no hm]
    · have e2 := (meetN_fault a b k).resolve_left h0
      have := meetN_stay h0 1
      rw [this]
      show (if (sideN _ k).2 = 0 then _ else sideN _ k) = _
      rw [ih, if_neg h0, e2]
end Um
namespace Go.Proofs.Ytmkdjaafkigemaa
set_option linter.unusedSimpArgs false
open Go.RowKit

theorem info_side : (Try.prog.info? 32).map (fun i => (i.zero, i.size, i.bytes)) = some (some (.agg #[.int .i64 0, .int .i64 0]), 2, 16) := by kernel_rfl
/-- A row of n spans of a call's own that is being filled: the first ones are l. -/
structure RowAt (w : World) (n B : Nat) (l : List (Int × Int)) (wr : World) : Prop where
  below : Below w.heap.size w wr
  row : wr.ownsRow w.heap.size 32 2 (.slice (some ⟨B, 0, none⟩) n n) n (cellsOf (l ++ List.replicate (n - l.length) (0, 0)))
theorem RowAt.start {w w0 : World} {n B : Nat} (hg : w.grownBy w0 none)
    (hr : w0.ownsRow w.heap.size 32 2 (.slice (some ⟨B, 0, none⟩) n n) n (madeCells (Value.agg #[.int .i64 0, .int .i64 0]).cells (n * 2)).toList) : RowAt w n B [] w0 := by
  refine ⟨(Below.refl w.heap.size w).grown hg (Nat.le_refl _) (fun j e => by cases e), ?_⟩
  have e : (Value.agg #[.int .i64 0, .int .i64 0]).cells = #[.int .i64 0, .int .i64 0] := rfl
  rw [e, cellsOf_zeros] at hr
  exact hr
theorem RowAt.lo0 {w wr : World} {n B : Nat} {l : List (Int × Int)} (h : RowAt w n B l wr) {k : Nat} (hl : l.length = k) (hk : k < n) : wr.cell? ⟨B, k * 2, none⟩ = some (.int .i64 0) := by
  subst hl
  rw [h.row.cellAt (l.length * 2) (by omega), cellsOf_lo _ l.length (by rw [List.length_append, List.length_replicate]; omega), List.getElem?_append_right (Nat.le_refl _), Nat.sub_self]
  simp [show 0 < n - l.length by omega]
theorem RowAt.hi0 {w wr : World} {n B : Nat} {l : List (Int × Int)} (h : RowAt w n B l wr) {k : Nat} (hl : l.length = k) (hk : k < n) : wr.cell? ⟨B, k * 2 + 1, none⟩ = some (.int .i64 0) := by
  subst hl
  rw [h.row.cellAt (l.length * 2 + 1) (by omega), cellsOf_hi _ l.length (by rw [List.length_append, List.length_replicate]; omega), List.getElem?_append_right (Nat.le_refl _), Nat.sub_self]
  simp [show 0 < n - l.length by omega]
theorem RowAt.ge {w wr : World} {n B : Nat} {l : List (Int × Int)} (h : RowAt w n B l wr) : w.heap.size ≤ B := owns_from h.row B rfl
theorem set_behind : ∀ (l : List (Int × Int)) (m : Nat) (s : Int × Int), (l ++ List.replicate (m + 1) (0, 0)).set l.length s = l ++ [s] ++ List.replicate m (0, 0)
  | [], m, s => rfl
  | x :: l, m, s => by
    show x :: (l ++ List.replicate (m + 1) (0, 0)).set l.length s = x :: (l ++ [s] ++ List.replicate m (0, 0))
    rw [set_behind l m s]
theorem RowAt.put {w wr : World} {n B : Nat} {l : List (Int × Int)} (h : RowAt w n B l wr) {k : Nat} (hl : l.length = k) (hk : k < n) (x y : Int) :
    RowAt w n B (l ++ [(x, y)]) ((wr.setCell ⟨B, k * 2, none⟩ (.int .i64 x)).setCell ⟨B, k * 2 + 1, none⟩ (.int .i64 y)) := by
  subst hl
  have g := h.ge
  have s1 := (h.row.stored (l.length * 2) (.int .i64 x)).1
  have s2 := (s1.stored (l.length * 2 + 1) (.int .i64 y)).1
  refine ⟨(h.below.setCell (by show w.heap.size ≤ B; omega) _).setCell (by show w.heap.size ≤ B; omega) _, ?_⟩
  rw [cellsOf_set, show n - l.length = (n - (l ++ [(x, y)]).length) + 1 by simp; omega, set_behind] at s2
  exact s2
theorem RowAt.step {w wr w' : World} {n B : Nat} {l : List (Int × Int)} (h : RowAt w n B l wr) (hb : Below wr.heap.size wr w') : RowAt w n B l w' := ⟨h.below.trans (hb.mono h.below.size), owns_keep h.row hb⟩
theorem RowAt.ls {w wr : World} {n B : Nat} {l : List (Int × Int)} (h : RowAt w n B l wr) (hl : l.length = n) : Ls wr.heap.size wr (.slice (some ⟨B, 0, none⟩) n n) l := by
  have := h.row
  rw [hl, Nat.sub_self, List.replicate_zero, List.append_nil] at this
  subst hl
  exact ls_owns this
theorem RowAt.own {w wr : World} {n B : Nat} {l : List (Int × Int)} (h : RowAt w n B l wr) (hl : l.length = n) {base : Nat} (hb : base ≤ w.heap.size) : wr.ownsRow base 32 2 (.slice (some ⟨B, 0, none⟩) n n) n (cellsOf l) := by
  have := h.row
  rw [hl, Nat.sub_self, List.replicate_zero, List.append_nil] at this
  obtain ⟨e, h2⟩ := this
  refine ⟨e, h2.imp id ?_⟩
  rintro ⟨g1, cap1, cur, e1, hg, r⟩
  exact ⟨g1, cap1, cur, e1, Nat.le_trans hb hg, r⟩

/-- The hull of two, whatever they are. -/
def hullA (a b : List (Int × Int)) : List (Int × Int) := if Um.boxesF a b = 0 then Um.hullN a b a.length else []
/-- What both have, whatever they are; the fault. -/
def meetA (a b : List (Int × Int)) : List (Int × Int) × Int := if Um.boxesF a b = 0 then Um.meetN a b a.length else ([], Um.boxesF a b)

end Go.Proofs.Ytmkdjaafkigemaa
