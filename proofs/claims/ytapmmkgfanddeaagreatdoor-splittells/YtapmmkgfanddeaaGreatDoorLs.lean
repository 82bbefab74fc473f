/-
  A list of spans in memory: what is read of it, what it is behind a call, of a row of the call's own.
-/
import Derived.Test.YtapmmkgfanddeaaGreatDoorMems
import Derived.OwnWalk
import Derived.Laws.OwnMore
namespace Go.Proofs.YtapmmkgfanddeaaGreatDoor
set_option linter.unusedSimpArgs false
open Go.RowKit

/-- The slice value v holds the spans l, in a block below B. -/
def Ls (B : Nat) (w : World) (v : Value) (l : List (Int × Int)) : Prop :=
  ∃ a cap, v = .slice a l.length cap ∧ l.length ≤ cap ∧ (l = [] ∨ ∃ b off, a = some ⟨b, off, none⟩ ∧ b < B ∧ ∀ j, j < l.length → w.cell? ⟨b, off + j * 2, none⟩ = some (.int .i64 (l[j]?.getD (0, 0)).1) ∧ w.cell? ⟨b, off + j * 2 + 1, none⟩ = some (.int .i64 (l[j]?.getD (0, 0)).2))
theorem Ls.keep {B : Nat} {w w' : World} {v : Value} {l : List (Int × Int)} (h : Ls B w v l) (hb : Below B w w') : Ls B w' v l := by
  obtain ⟨a, cap, e, hc0, h2⟩ := h
  refine ⟨a, cap, e, hc0, h2.imp id ?_⟩
  rintro ⟨b, off, e2, hlt, hc⟩
  exact ⟨b, off, e2, hlt, fun j hj => ⟨(hb.cell (p := ⟨b, off + j * 2, none⟩) hlt).trans (hc j hj).1, (hb.cell (p := ⟨b, off + j * 2 + 1, none⟩) hlt).trans (hc j hj).2⟩⟩
theorem Ls.wide {B B' : Nat} {w : World} {v : Value} {l : List (Int × Int)} (h : Ls B w v l) (hb : B ≤ B') : Ls B' w v l := by
  obtain ⟨a, cap, e, hc0, h2⟩ := h
  refine ⟨a, cap, e, hc0, h2.imp id ?_⟩
  rintro ⟨b, off, e2, hlt, hc⟩
  exact ⟨b, off, e2, by omega, hc⟩
/-- Behind a call of someone else's. -/
theorem Ls.step {w w' : World} {v : Value} {l : List (Int × Int)} (h : Ls w.heap.size w v l) (hb : Below w.heap.size w w') : Ls w'.heap.size w' v l := (h.keep hb).wide hb.size
/-- A list that is not empty, written out. -/
theorem Ls.out {B : Nat} {w : World} {v : Value} {l : List (Int × Int)} (h : Ls B w v l) (h0 : l ≠ []) :
    ∃ b off cap, v = .slice (some ⟨b, off, none⟩) l.length cap ∧ l.length ≤ cap ∧ b < B ∧ ∀ j, j < l.length → w.cell? ⟨b, off + j * 2, none⟩ = some (.int .i64 (l[j]?.getD (0, 0)).1) ∧ w.cell? ⟨b, off + j * 2 + 1, none⟩ = some (.int .i64 (l[j]?.getD (0, 0)).2) := by
  obtain ⟨a, cap, e, hc0, h2⟩ := h
  rcases h2 with h2 | ⟨b, off, rfl, hlt, hc⟩
  · exact absurd h2 h0
  · exact ⟨b, off, cap, e, hc0, hlt, hc⟩
theorem Ls.nil (B : Nat) (w : World) : Ls B w (.slice none 0 0) [] := ⟨none, 0, rfl, Nat.le_refl _, .inl rfl⟩
/-- The cells of spans. -/
def cellsOf : List (Int × Int) → List Value
  | [] => []
  | s :: l => .int .i64 s.1 :: .int .i64 s.2 :: cellsOf l
theorem cellsOf_length : ∀ l : List (Int × Int), (cellsOf l).length = l.length * 2
  | [] => rfl
  | _ :: l => by show (cellsOf l).length + 1 + 1 = (l.length + 1) * 2; rw [cellsOf_length l]; omega
theorem cellsOf_append : ∀ l m : List (Int × Int), cellsOf (l ++ m) = cellsOf l ++ cellsOf m
  | [], _ => rfl
  | s :: l, m => by show .int .i64 s.1 :: .int .i64 s.2 :: cellsOf (l ++ m) = _; rw [cellsOf_append l m]; rfl
theorem cellsOf_lo : ∀ (l : List (Int × Int)) (j : Nat), j < l.length → (cellsOf l)[j * 2]? = some (.int .i64 (l[j]?.getD (0, 0)).1)
  | [], _, h => by simp at h
  | s :: l, 0, _ => rfl
  | s :: l, j + 1, h => by
    have i := cellsOf_lo l j (by simpa using h)
    show (.int .i64 s.1 :: .int .i64 s.2 :: cellsOf l)[(j + 1) * 2]? = _
    rw [show (j + 1) * 2 = j * 2 + 1 + 1 by omega]
    simpa using i
theorem cellsOf_hi : ∀ (l : List (Int × Int)) (j : Nat), j < l.length → (cellsOf l)[j * 2 + 1]? = some (.int .i64 (l[j]?.getD (0, 0)).2)
  | [], _, h => by simp at h
  | s :: l, 0, _ => rfl
  | s :: l, j + 1, h => by
    have i := cellsOf_hi l j (by simpa using h)
    show (.int .i64 s.1 :: .int .i64 s.2 :: cellsOf l)[(j + 1) * 2 + 1]? = _
    rw [show (j + 1) * 2 + 1 = j * 2 + 1 + 1 + 1 by omega]
    simpa using i
theorem cellsOf_set : ∀ (l : List (Int × Int)) (j : Nat) (a b : Int), ((cellsOf l).set (j * 2) (.int .i64 a)).set (j * 2 + 1) (.int .i64 b) = cellsOf (l.set j (a, b))
  | [], _, _, _ => rfl
  | s :: l, 0, _, _ => rfl
  | s :: l, j + 1, a, b => by
    have i := cellsOf_set l j a b
    show ((.int .i64 s.1 :: .int .i64 s.2 :: cellsOf l).set ((j + 1) * 2) _).set ((j + 1) * 2 + 1) _ = .int .i64 s.1 :: .int .i64 s.2 :: cellsOf (l.set j (a, b))
    rw [show (j + 1) * 2 + 1 = j * 2 + 1 + 1 + 1 by omega, show (j + 1) * 2 = j * 2 + 1 + 1 by omega]
    simp only [List.set_cons_succ]
    rw [i]
theorem cellsOf_zeros : ∀ n : Nat, (madeCells #[.int .i64 0, .int .i64 0] (n * 2)).toList = cellsOf (List.replicate n (0, 0)) := by
  intro n
  apply List.ext_getElem?
  intro i
  by_cases h : i < n * 2
  · rcases Nat.mod_two_eq_zero_or_one i with e | e
    · have := cellsOf_lo (List.replicate n (0, 0)) (i / 2) (by simp; omega)
      rw [show i / 2 * 2 = i by omega] at this
      rw [this]
      simp [madeCells, h, e, show i / 2 < n by omega]
    · have := cellsOf_hi (List.replicate n (0, 0)) (i / 2) (by simp; omega)
      rw [show i / 2 * 2 + 1 = i by omega] at this
      rw [this]
      simp [madeCells, h, e, show i / 2 < n by omega]
  · have e1 : (madeCells #[Value.int .i64 0, Value.int .i64 0] (n * 2)).toList[i]? = none := List.getElem?_eq_none (by simp [madeCells]; omega)
    have e2 : (cellsOf (List.replicate n (0, 0)))[i]? = none := List.getElem?_eq_none (by rw [cellsOf_length, List.length_replicate]; omega)
    rw [e1, e2]
theorem ls_owns {w : World} {base E : Nat} {v : Value} {l : List (Int × Int)} (h : w.ownsRow base E 2 v l.length (cellsOf l)) : Ls w.heap.size w v l := by
  rcases h.2 with ⟨rfl, h0⟩ | ⟨g, cap, cur, rfl, _, hg, hle, _, hsz, hcur⟩
  · have : l = [] := List.length_eq_zero_iff.1 h0
    subst this; exact Ls.nil _ _
  · refine ⟨_, _, rfl, hle, .inr ⟨g, 0, rfl, (Array.getElem?_eq_some_iff.1 hg).1, fun j hj => ?_⟩⟩
    have key : ∀ i, i < l.length * 2 → w.cell? ⟨g, 0 + i, none⟩ = (cellsOf l)[i]? := by
      intro i hi
      rw [← hcur, List.getElem?_take_of_lt hi, Array.getElem?_toList]
      simp [World.cell?, hg]
    exact ⟨(key (j * 2) (by omega)).trans (cellsOf_lo l j hj), (key (j * 2 + 1) (by omega)).trans (cellsOf_hi l j hj)⟩
/-- The row's block is none from before. -/
theorem owns_from {w : World} {base E size n : Nat} {v : Value} {xs : List Value} (h : w.ownsRow base E size v n xs) : ∀ j, v.ownBlock = some j → base ≤ j := by
  rcases h.2 with ⟨rfl, _⟩ | ⟨g, cap, cur, rfl, hg, _⟩
  · intro j e; cases e
  · intro j e
    have : g = j := by simpa [Value.ownBlock] using e
    omega
/-- From block b, cell off on lie the spans l. -/
def LsAt (w : World) (b off : Nat) (l : List (Int × Int)) : Prop :=
  b < w.heap.size ∧ ∀ j, j < l.length → w.cell? ⟨b, off + j * 2, none⟩ = some (.int .i64 (l[j]?.getD (0, 0)).1) ∧ w.cell? ⟨b, off + j * 2 + 1, none⟩ = some (.int .i64 (l[j]?.getD (0, 0)).2)
theorem Ls.open {w : World} {v : Value} {l : List (Int × Int)} (h : Ls w.heap.size w v l) (h0 : l ≠ []) :
    ∃ b off cap, v = .slice (some ⟨b, off, none⟩) l.length cap ∧ l.length ≤ cap ∧ LsAt w b off l := by
  obtain ⟨b, off, cap, e, hc, hlt, hcs⟩ := h.out h0
  exact ⟨b, off, cap, e, hc, hlt, hcs⟩
theorem LsAt.step {w w' : World} {b off : Nat} {l : List (Int × Int)} (h : LsAt w b off l) (hb : Below w.heap.size w w') : LsAt w' b off l := by
  obtain ⟨hlt, hcs⟩ := h
  exact ⟨Nat.lt_of_lt_of_le hlt hb.size, fun j hj => ⟨(hb.cell (p := ⟨b, off + j * 2, none⟩) hlt).trans (hcs j hj).1, (hb.cell (p := ⟨b, off + j * 2 + 1, none⟩) hlt).trans (hcs j hj).2⟩⟩
theorem LsAt.alloc {w : World} {b off : Nat} {l : List (Int × Int)} (h : LsAt w b off l) (o : Obj) : LsAt (w.alloc o) b off l := h.step ((Below.refl _ _).alloc (Nat.le_refl _) o)
theorem LsAt.drewN {w : World} {b off : Nat} {l : List (Int × Int)} (h : LsAt w b off l) (n : Nat) : LsAt (w.drewN n) b off l := h
theorem LsAt.lo {w : World} {b off : Nat} {l : List (Int × Int)} (h : LsAt w b off l) (j : Nat) {o : Nat} {s : Int × Int} (hj : l[j]? = some s) (ho : o = off + j * 2) : w.cell? ⟨b, o, none⟩ = some (.int .i64 s.1) := by
  subst ho
  have := (h.2 j (List.getElem?_eq_some_iff.1 hj).1).1
  rw [hj] at this; exact this
theorem LsAt.hi {w : World} {b off : Nat} {l : List (Int × Int)} (h : LsAt w b off l) (j : Nat) {o : Nat} {s : Int × Int} (hj : l[j]? = some s) (ho : o = off + j * 2 + 1) : w.cell? ⟨b, o, none⟩ = some (.int .i64 s.2) := by
  subst ho
  have := (h.2 j (List.getElem?_eq_some_iff.1 hj).1).2
  rw [hj] at this; exact this
theorem LsAt.ls {w : World} {b off cap n : Nat} {l : List (Int × Int)} (h : LsAt w b off l) (hn : n = l.length) (hc : n ≤ cap) : Ls w.heap.size w (.slice (some ⟨b, off, none⟩) n cap) l := by
  subst hn
  exact ⟨_, _, rfl, hc, .inr ⟨b, off, rfl, h.1, h.2⟩⟩
end Go.Proofs.YtapmmkgfanddeaaGreatDoor
