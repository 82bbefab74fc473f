/-
  A list of terms in memory, and a list of such lists: what is read of them, what they are behind a call.
-/
import Derived.Test.YtbnencjfgnkbfaaDoorMems
import Derived.Test.YtbnencjfgnkbfaaDoorMaths2
namespace Go.Proofs.YtbnencjfgnkbfaaDoor
set_option linter.unusedSimpArgs false
open Go.RowKit

/-- The cells of one term, from block b, cell o on. -/
def TmAt (w : World) (b o : Nat) (t : Um.Tm) : Prop :=
  w.cell? ⟨b, o, none⟩ = some (.int .i64 t.1) ∧ w.cell? ⟨b, o + 1, none⟩ = some (.int .i64 t.2.1) ∧ w.cell? ⟨b, o + 1 + 1, none⟩ = some (.int .i64 t.2.2.1) ∧ w.cell? ⟨b, o + 1 + 2, none⟩ = some (.int .i64 t.2.2.2)
theorem TmAt.keep {B : Nat} {w w' : World} {b o : Nat} {t : Um.Tm} (h : TmAt w b o t) (hb : Below B w w') (hlt : b < B) : TmAt w' b o t :=
  ⟨(hb.cell (p := ⟨b, o, none⟩) hlt).trans h.1, (hb.cell (p := ⟨b, o + 1, none⟩) hlt).trans h.2.1, (hb.cell (p := ⟨b, o + 1 + 1, none⟩) hlt).trans h.2.2.1, (hb.cell (p := ⟨b, o + 1 + 2, none⟩) hlt).trans h.2.2.2⟩
/-- How often the k-th unknown stands in it. -/
theorem TmAt.times {w : World} {b o : Nat} {t : Um.Tm} (h : TmAt w b o t) {k : Nat} (hk : k < 3) : w.cell? ⟨b, o + 1 + k, none⟩ = some (.int .i64 (Um.tmT t k)) := by
  rcases (by omega : k = 0 ∨ k = 1 ∨ k = 2) with rfl | rfl | rfl
  · exact h.2.1
  · exact h.2.2.1
  · exact h.2.2.2
/-- From block b, cell off on lie the terms f. -/
def LtAt (w : World) (b off : Nat) (f : List Um.Tm) : Prop := b < w.heap.size ∧ ∀ j, j < f.length → TmAt w b (off + j * 4) (Um.tm f j)
theorem LtAt.step {w w' : World} {b off : Nat} {f : List Um.Tm} (h : LtAt w b off f) (hb : Below w.heap.size w w') : LtAt w' b off f :=
  ⟨Nat.lt_of_lt_of_le h.1 hb.size, fun j hj => (h.2 j hj).keep hb h.1⟩
/-- The slice value v holds the terms f, in a block below B. -/
def Lt (B : Nat) (w : World) (v : Value) (f : List Um.Tm) : Prop :=
  ∃ a cap, v = .slice a f.length cap ∧ f.length ≤ cap ∧ (f = [] ∨ ∃ b off, a = some ⟨b, off, none⟩ ∧ b < B ∧ ∀ j, j < f.length → TmAt w b (off + j * 4) (Um.tm f j))
theorem Lt.keep {B : Nat} {w w' : World} {v : Value} {f : List Um.Tm} (h : Lt B w v f) (hb : Below B w w') : Lt B w' v f := by
  obtain ⟨a, cap, e, hc, h2⟩ := h
  refine ⟨a, cap, e, hc, h2.imp id ?_⟩
  rintro ⟨b, off, e2, hlt, hh⟩
  exact ⟨b, off, e2, hlt, fun j hj => (hh j hj).keep hb hlt⟩
theorem Lt.wide {B B' : Nat} {w : World} {v : Value} {f : List Um.Tm} (h : Lt B w v f) (hb : B ≤ B') : Lt B' w v f := by
  obtain ⟨a, cap, e, hc, h2⟩ := h
  refine ⟨a, cap, e, hc, h2.imp id ?_⟩
  rintro ⟨b, off, e2, hlt, hh⟩
  exact ⟨b, off, e2, by omega, hh⟩
theorem Lt.step {w w' : World} {v : Value} {f : List Um.Tm} (h : Lt w.heap.size w v f) (hb : Below w.heap.size w w') : Lt w'.heap.size w' v f := (h.keep hb).wide hb.size
theorem Lt.nil (B : Nat) (w : World) : Lt B w (.slice none 0 0) [] := ⟨none, 0, rfl, Nat.le_refl _, .inl rfl⟩
theorem Lt.open {w : World} {v : Value} {f : List Um.Tm} (h : Lt w.heap.size w v f) (h0 : f ≠ []) :
    ∃ b off cap, v = .slice (some ⟨b, off, none⟩) f.length cap ∧ f.length ≤ cap ∧ LtAt w b off f := by
  obtain ⟨a, cap, e, hc, h2⟩ := h
  rcases h2 with h2 | ⟨b, off, rfl, hlt, hh⟩
  · exact absurd h2 h0
  · exact ⟨b, off, cap, e, hc, hlt, hh⟩
theorem LtAt.lt {w : World} {b off cap n : Nat} {f : List Um.Tm} (h : LtAt w b off f) (hn : n = f.length) (hc : n ≤ cap) : Lt w.heap.size w (.slice (some ⟨b, off, none⟩) n cap) f := by
  subst hn
  exact ⟨_, _, rfl, hc, .inr ⟨b, off, rfl, h.1, h.2⟩⟩
theorem Fr.lt {w wr : World} {l : List (Nat × Int × Int)} {v : Value} {f : List Um.Tm} (h : Fr w wr l) (hs : Lt w.heap.size w v f) : Lt wr.heap.size wr v f := (hs.keep h.below).wide h.size
/-- The slice value v holds these lists of terms, one behind the other, all in blocks below B. -/
def Lf (B : Nat) (w : World) (v : Value) (s : List (List Um.Tm)) : Prop :=
  ∃ a cap, v = .slice a s.length cap ∧ s.length ≤ cap ∧ (s = [] ∨ ∃ b off, a = some ⟨b, off, none⟩ ∧ b < B ∧ ∀ j, j < s.length → ∃ u, w.cell? ⟨b, off + j, none⟩ = some u ∧ Lt B w u (Um.nx s j))
theorem Lf.keep {B : Nat} {w w' : World} {v : Value} {s : List (List Um.Tm)} (h : Lf B w v s) (hb : Below B w w') : Lf B w' v s := by
  obtain ⟨a, cap, e, hc, h2⟩ := h
  refine ⟨a, cap, e, hc, h2.imp id ?_⟩
  rintro ⟨b, off, e2, hlt, hh⟩
  refine ⟨b, off, e2, hlt, fun j hj => ?_⟩
  obtain ⟨u, hu, hl⟩ := hh j hj
  exact ⟨u, (hb.cell (p := ⟨b, off + j, none⟩) hlt).trans hu, hl.keep hb⟩
theorem Lf.wide {B B' : Nat} {w : World} {v : Value} {s : List (List Um.Tm)} (h : Lf B w v s) (hb : B ≤ B') : Lf B' w v s := by
  obtain ⟨a, cap, e, hc, h2⟩ := h
  refine ⟨a, cap, e, hc, h2.imp id ?_⟩
  rintro ⟨b, off, e2, hlt, hh⟩
  refine ⟨b, off, e2, by omega, fun j hj => ?_⟩
  obtain ⟨u, hu, hl⟩ := hh j hj
  exact ⟨u, hu, hl.wide hb⟩
theorem Lf.step {w w' : World} {v : Value} {s : List (List Um.Tm)} (h : Lf w.heap.size w v s) (hb : Below w.heap.size w w') : Lf w'.heap.size w' v s := (h.keep hb).wide hb.size
theorem Fr.lf {w wr : World} {l : List (Nat × Int × Int)} {v : Value} {s : List (List Um.Tm)} (h : Fr w wr l) (hs : Lf w.heap.size w v s) : Lf wr.heap.size wr v s := (hs.keep h.below).wide h.size
theorem Lf.open {w : World} {v : Value} {s : List (List Um.Tm)} (h : Lf w.heap.size w v s) (h0 : s ≠ []) :
    ∃ b off cap, v = .slice (some ⟨b, off, none⟩) s.length cap ∧ s.length ≤ cap ∧ b < w.heap.size ∧ ∀ j, j < s.length → ∃ u, w.cell? ⟨b, off + j, none⟩ = some u ∧ Lt w.heap.size w u (Um.nx s j) := by
  obtain ⟨a, cap, e, hc, h2⟩ := h
  rcases h2 with h2 | ⟨b, off, rfl, hlt, hh⟩
  · exact absurd h2 h0
  · exact ⟨b, off, cap, e, hc, hlt, hh⟩
end Go.Proofs.YtbnencjfgnkbfaaDoor
