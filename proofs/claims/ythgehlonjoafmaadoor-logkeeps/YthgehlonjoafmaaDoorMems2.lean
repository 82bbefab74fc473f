/-
  A list of terms in memory, and a list of such lists: what is read of them, what they are behind a call.
  A system in memory, and what package step's own functions lay into blocks: a system, a list; what is wrong with a system.
  A list of boxes in memory, and a list of lists of ints: what is read of them, what they are behind a call.
  A row of one's own that holds boxes: its first one, and two more at once.
  A row of one's own that holds lists of ints: what it is behind an append.
  A statement that leaves its order open, with a call whose answer lies in new memory: what hangs on it has not come ahead of it.
  A row of terms of one's own, as append makes it: its cells, and the list of terms that it holds.
-/
import Derived.Test.YthgehlonjoafmaaDoorMems
import Derived.Test.YthgehlonjoafmaaDoorMaths2
namespace Go.Proofs.YthgehlonjoafmaaDoor
set_option linter.unusedSimpArgs false
open Go.RowKit

/-- The cells of one term, from block b, cell o on. -/
def TmAt (w : World) (b o : Nat) (t : Um.Tm) : Prop :=
  w.cell? ⟨b, o, none⟩ = some (.int .i64 t.1) ∧ w.cell? ⟨b, o + 1, none⟩ = some (.int .i64 t.2.1) ∧ w.cell? ⟨b, o + 1 + 1, none⟩ = some (.int .i64 t.2.2.1) ∧ w.cell? ⟨b, o + 1 + 2, none⟩ = some (.int .i64 t.2.2.2)
theorem TmAt.keep {B : Nat} {w w' : World} {b o : Nat} {t : Um.Tm} (h : TmAt w b o t) (hb : Below B w w') (hlt : b < B) : TmAt w' b o t :=
  ⟨(hb.cell (p := ⟨b, o, none⟩) hlt).trans h.1, (hb.cell (p := ⟨b, o + 1, none⟩) hlt).trans h.2.1, (hb.cell (p := ⟨b, o + 1 + 1, none⟩) hlt).trans h.2.2.1, (hb.cell (p := ⟨b, o + 1 + 2, none⟩) hlt).trans h.2.2.2⟩
/-- How often the k-th unknown stands in it. -/
theorem TmAt.times {w : World} {b o : Nat} {t : Um.Tm} (h : TmAt w b o t) {k : Nat} (hk : k < 3) : w.cell? ⟨b, o + 1 + k, none⟩ = some (.int .i64 (Um.tmT t k)) := by
  rcases (by omega : k = 0 ∨ k = 1 ∨ k = 2) with rfl | rfl | rfl
  · exact h.2.1
  · exact h.2.2.1
  · exact h.2.2.2
/-- From block b, cell off on lie the terms f. -/
def LtAt (w : World) (b off : Nat) (f : List Um.Tm) : Prop := b < w.heap.size ∧ ∀ j, j < f.length → TmAt w b (off + j * 4) (Um.tm f j)
theorem LtAt.step {w w' : World} {b off : Nat} {f : List Um.Tm} (h : LtAt w b off f) (hb : Below w.heap.size w w') : LtAt w' b off f :=
  ⟨Nat.lt_of_lt_of_le h.1 hb.size, fun j hj => (h.2 j hj).keep hb h.1⟩
/-- The slice value v holds the terms f, in a block below B. -/
def Lt (B : Nat) (w : World) (v : Value) (f : List Um.Tm) : Prop :=
  ∃ a cap, v = .slice a f.length cap ∧ f.length ≤ cap ∧ (f = [] ∨ ∃ b off, a = some ⟨b, off, none⟩ ∧ b < B ∧ ∀ j, j < f.length → TmAt w b (off + j * 4) (Um.tm f j))
theorem Lt.keep {B : Nat} {w w' : World} {v : Value} {f : List Um.Tm} (h : Lt B w v f) (hb : Below B w w') : Lt B w' v f := by
  obtain ⟨a, cap, e, hc, h2⟩ := h
  refine ⟨a, cap, e, hc, h2.imp id ?_⟩
  rintro ⟨b, off, e2, hlt, hh⟩
  exact ⟨b, off, e2, hlt, fun j hj => (hh j hj).keep hb hlt⟩
theorem Lt.wide {B B' : Nat} {w : World} {v : Value} {f : List Um.Tm} (h : Lt B w v f) (hb : B ≤ B') : Lt B' w v f := by
  obtain ⟨a, cap, e, hc, h2⟩ := h
  refine ⟨a, cap, e, hc, h2.imp id ?_⟩
  rintro ⟨b, off, e2, hlt, hh⟩
  exact ⟨b, off, e2, by omega, hh⟩
theorem Lt.step {w w' : World} {v : Value} {f : List Um.Tm} (h : Lt w.heap.size w v f) (hb : Below w.heap.size w w') : Lt w'.heap.size w' v f := (h.keep hb).wide hb.size
theorem Lt.nil (B : Nat) (w : World) : Lt B w (.slice none 0 0) [] := ⟨none, 0, rfl, Nat.le_refl _, .inl rfl⟩
theorem Lt.open {w : World} {v : Value} {f : List Um.Tm} (h : Lt w.heap.size w v f) (h0 : f ≠ []) :
    ∃ b off cap, v = .slice (some ⟨b, off, none⟩) f.length cap ∧ f.length ≤ cap ∧ LtAt w b off f := by
  obtain ⟨a, cap, e, hc, h2⟩ := h
  rcases h2 with h2 | ⟨b, off, rfl, hlt, hh⟩
  · exact absurd h2 h0
  · exact ⟨b, off, cap, e, hc, hlt, hh⟩
theorem LtAt.lt {w : World} {b off cap n : Nat} {f : List Um.Tm} (h : LtAt w b off f) (hn : n = f.length) (hc : n ≤ cap) : Lt w.heap.size w (.slice (some ⟨b, off, none⟩) n cap) f := by
  subst hn
  exact ⟨_, _, rfl, hc, .inr ⟨b, off, rfl, h.1, h.2⟩⟩
theorem Fr.lt {w wr : World} {l : List (Nat × Int × Int)} {v : Value} {f : List Um.Tm} (h : Fr w wr l) (hs : Lt w.heap.size w v f) : Lt wr.heap.size wr v f := (hs.keep h.below).wide h.size
/-- The slice value v holds these lists of terms, one behind the other, all in blocks below B. -/
def Lf (B : Nat) (w : World) (v : Value) (s : List (List Um.Tm)) : Prop :=
  ∃ a cap, v = .slice a s.length cap ∧ s.length ≤ cap ∧ (s = [] ∨ ∃ b off, a = some ⟨b, off, none⟩ ∧ b < B ∧ ∀ j, j < s.length → ∃ u, w.cell? ⟨b, off + j, none⟩ = some u ∧ Lt B w u (Um.nx s j))
theorem Lf.keep {B : Nat} {w w' : World} {v : Value} {s : List (List Um.Tm)} (h : Lf B w v s) (hb : Below B w w') : Lf B w' v s := by
  obtain ⟨a, cap, e, hc, h2⟩ := h
  refine ⟨a, cap, e, hc, h2.imp id ?_⟩
  rintro ⟨b, off, e2, hlt, hh⟩
  refine ⟨b, off, e2, hlt, fun j hj => ?_⟩
  obtain ⟨u, hu, hl⟩ := hh j hj
  exact ⟨u, (hb.cell (p := ⟨b, off + j, none⟩) hlt).trans hu, hl.keep hb⟩
theorem Lf.wide {B B' : Nat} {w : World} {v : Value} {s : List (List Um.Tm)} (h : Lf B w v s) (hb : B ≤ B') : Lf B' w v s := by
  obtain ⟨a, cap, e, hc, h2⟩ := h
  refine ⟨a, cap, e, hc, h2.imp id ?_⟩
  rintro ⟨b, off, e2, hlt, hh⟩
  refine ⟨b, off, e2, by omega, fun j hj => ?_⟩
  obtain ⟨u, hu, hl⟩ := hh j hj
  exact ⟨u, hu, hl.wide hb⟩
theorem Lf.step {w w' : World} {v : Value} {s : List (List Um.Tm)} (h : Lf w.heap.size w v s) (hb : Below w.heap.size w w') : Lf w'.heap.size w' v s := (h.keep hb).wide hb.size
theorem Fr.lf {w wr : World} {l : List (Nat × Int × Int)} {v : Value} {s : List (List Um.Tm)} (h : Fr w wr l) (hs : Lf w.heap.size w v s) : Lf wr.heap.size wr v s := (hs.keep h.below).wide h.size
theorem Lf.open {w : World} {v : Value} {s : List (List Um.Tm)} (h : Lf w.heap.size w v s) (h0 : s ≠ []) :
    ∃ b off cap, v = .slice (some ⟨b, off, none⟩) s.length cap ∧ s.length ≤ cap ∧ b < w.heap.size ∧ ∀ j, j < s.length → ∃ u, w.cell? ⟨b, off + j, none⟩ = some u ∧ Lt w.heap.size w u (Um.nx s j) := by
  obtain ⟨a, cap, e, hc, h2⟩ := h
  rcases h2 with h2 | ⟨b, off, rfl, hlt, hh⟩
  · exact absurd h2 h0
  · exact ⟨b, off, cap, e, hc, hlt, hh⟩
end Go.Proofs.YthgehlonjoafmaaDoor
namespace Go.Proofs.YthgehlonjoafmaaDoor
set_option linter.unusedSimpArgs false
open Go.RowKit

theorem sys_cells (w : World) (v0 v1 : Value) (T : TypeId) : (w.alloc (.cells #[v0, v1] T)).cell? ⟨w.heap.size, 0, none⟩ = some v0 ∧ (w.alloc (.cells #[v0, v1] T)).cell? ⟨w.heap.size, 1, none⟩ = some v1 := ⟨(Blk.new w T #[v0, v1]).cell 0 rfl, (Blk.new w T #[v0, v1]).cell 1 rfl⟩
theorem sysF_none (p : List (Int × Int)) : Um.sysF [] p = 5 := rfl
theorem sysF_full {s : List (List Um.Tm)} {p : List (Int × Int)} (h : 3 < s.length) : Um.sysF s p = 4 := by
  unfold Um.sysF
  rw [if_neg (by rintro rfl; simp at h), if_pos h]
theorem sysF_shape {s : List (List Um.Tm)} {p : List (Int × Int)} (h0 : s ≠ []) (h3 : ¬ 3 < s.length) (h : ¬ p.length = s.length) : Um.sysF s p = 3 := by
  unfold Um.sysF
  rw [if_neg h0, if_neg h3, if_neg h]
theorem sysF_forms {s : List (List Um.Tm)} {p : List (Int × Int)} (h0 : s ≠ []) (h3 : ¬ 3 < s.length) (h : p.length = s.length) : Um.sysF s p = if Um.formsF s.length s = 0 then Um.sidesF p else Um.formsF s.length s := by
  unfold Um.sysF
  rw [if_neg h0, if_neg h3, if_pos h]
/-- A system in block B. -/
structure SyAt (w : World) (B : Nat) (v0 v1 : Value) : Prop where
  lt : B < w.heap.size
  c0 : w.cell? ⟨B, 0, none⟩ = some v0
  c1 : w.cell? ⟨B, 1, none⟩ = some v1
theorem SyAt.step {w w' : World} {B : Nat} {v0 v1 : Value} (h : SyAt w B v0 v1) (hb : Below w.heap.size w w') : SyAt w' B v0 v1 :=
  ⟨Nat.lt_of_lt_of_le h.lt hb.size, (hb.cell (p := ⟨B, 0, none⟩) h.lt).trans h.c0, (hb.cell (p := ⟨B, 1, none⟩) h.lt).trans h.c1⟩
theorem SyAt.new (w : World) (v0 v1 : Value) (T : TypeId) {B : Nat} (hB : B = w.heap.size) : SyAt (w.alloc (.cells #[v0, v1] T)) B v0 v1 := by
  subst hB
  exact ⟨(Blk.new w T #[v0, v1]).lt, (Blk.new w T #[v0, v1]).cell 0 rfl, (Blk.new w T #[v0, v1]).cell 1 rfl⟩
theorem SyAt.alloc {w : World} {B : Nat} {v0 v1 : Value} (h : SyAt w B v0 v1) (o : Obj) : SyAt (w.alloc o) B v0 v1 := h.step ((Below.refl _ _).alloc (Nat.le_refl _) o)
/-- A value in block B. -/
structure VaAt (w : World) (B : Nat) (v : Value) : Prop where
  lt : B < w.heap.size
  c : w.cell? ⟨B, 0, none⟩ = some v
theorem VaAt.step {w w' : World} {B : Nat} {v : Value} (h : VaAt w B v) (hb : Below w.heap.size w w') : VaAt w' B v :=
  ⟨Nat.lt_of_lt_of_le h.lt hb.size, (hb.cell (p := ⟨B, 0, none⟩) h.lt).trans h.c⟩
theorem VaAt.new (w : World) (v : Value) (T : TypeId) {B : Nat} (hB : B = w.heap.size) : VaAt (w.alloc (.cells #[v] T)) B v := by
  subst hB
  exact ⟨(Blk.new w T #[v]).lt, (Blk.new w T #[v]).cell 0 rfl⟩
theorem VaAt.alloc {w : World} {B : Nat} {v : Value} (h : VaAt w B v) (o : Obj) : VaAt (w.alloc o) B v := h.step ((Below.refl _ _).alloc (Nat.le_refl _) o)
end Go.Proofs.YthgehlonjoafmaaDoor
namespace Go.Proofs.YthgehlonjoafmaaDoor
set_option linter.unusedSimpArgs false
open Go.RowKit

/-- The slice value v holds these boxes, one behind the other, all in blocks below B. -/
def Lb (B : Nat) (w : World) (v : Value) (l : List (List (Int × Int))) : Prop :=
  ∃ a cap, v = .slice a l.length cap ∧ l.length ≤ cap ∧ (l = [] ∨ ∃ b off, a = some ⟨b, off, none⟩ ∧ b < B ∧ ∀ j, j < l.length → ∃ u, w.cell? ⟨b, off + j, none⟩ = some u ∧ Ls B w u (l[j]?.getD []))
theorem Lb.keep {B : Nat} {w w' : World} {v : Value} {l : List (List (Int × Int))} (h : Lb B w v l) (hb : Below B w w') : Lb B w' v l := by
  obtain ⟨a, cap, e, hc, h2⟩ := h
  refine ⟨a, cap, e, hc, h2.imp id ?_⟩
  rintro ⟨b, off, e2, hlt, hh⟩
  refine ⟨b, off, e2, hlt, fun j hj => ?_⟩
  obtain ⟨u, hu, hl⟩ := hh j hj
  exact ⟨u, (hb.cell (p := ⟨b, off + j, none⟩) hlt).trans hu, hl.keep hb⟩
theorem Lb.wide {B B' : Nat} {w : World} {v : Value} {l : List (List (Int × Int))} (h : Lb B w v l) (hb : B ≤ B') : Lb B' w v l := by
  obtain ⟨a, cap, e, hc, h2⟩ := h
  refine ⟨a, cap, e, hc, h2.imp id ?_⟩
  rintro ⟨b, off, e2, hlt, hh⟩
  refine ⟨b, off, e2, by omega, fun j hj => ?_⟩
  obtain ⟨u, hu, hl⟩ := hh j hj
  exact ⟨u, hu, hl.wide hb⟩
theorem Lb.step {w w' : World} {v : Value} {l : List (List (Int × Int))} (h : Lb w.heap.size w v l) (hb : Below w.heap.size w w') : Lb w'.heap.size w' v l := (h.keep hb).wide hb.size
theorem Lb.nil (B : Nat) (w : World) : Lb B w (.slice none 0 0) [] := ⟨none, 0, rfl, Nat.le_refl _, .inl rfl⟩
theorem Fr.lb {w wr : World} {m : List (Nat × Int × Int)} {v : Value} {l : List (List (Int × Int))} (h : Fr w wr m) (hs : Lb w.heap.size w v l) : Lb wr.heap.size wr v l := (hs.keep h.below).wide h.size
theorem Lb.open {w : World} {v : Value} {l : List (List (Int × Int))} (h : Lb w.heap.size w v l) (h0 : l ≠ []) :
    ∃ b off cap, v = .slice (some ⟨b, off, none⟩) l.length cap ∧ l.length ≤ cap ∧ b < w.heap.size ∧ ∀ j, j < l.length → ∃ u, w.cell? ⟨b, off + j, none⟩ = some u ∧ Ls w.heap.size w u (l[j]?.getD []) := by
  obtain ⟨a, cap, e, hc, h2⟩ := h
  rcases h2 with h2 | ⟨b, off, rfl, hlt, hh⟩
  · exact absurd h2 h0
  · exact ⟨b, off, cap, e, hc, hlt, hh⟩
/-- The slice value v holds these lists of ints, all in blocks below B. -/
def Ll (B : Nat) (w : World) (v : Value) (l : List (List Int)) : Prop :=
  ∃ a cap, v = .slice a l.length cap ∧ l.length ≤ cap ∧ (l = [] ∨ ∃ b off, a = some ⟨b, off, none⟩ ∧ b < B ∧ ∀ j, j < l.length → ∃ u, w.cell? ⟨b, off + j, none⟩ = some u ∧ Li B w u (l[j]?.getD []))
theorem Ll.keep {B : Nat} {w w' : World} {v : Value} {l : List (List Int)} (h : Ll B w v l) (hb : Below B w w') : Ll B w' v l := by
  obtain ⟨a, cap, e, hc, h2⟩ := h
  refine ⟨a, cap, e, hc, h2.imp id ?_⟩
  rintro ⟨b, off, e2, hlt, hh⟩
  refine ⟨b, off, e2, hlt, fun j hj => ?_⟩
  obtain ⟨u, hu, hl⟩ := hh j hj
  exact ⟨u, (hb.cell (p := ⟨b, off + j, none⟩) hlt).trans hu, hl.keep hb⟩
theorem Ll.wide {B B' : Nat} {w : World} {v : Value} {l : List (List Int)} (h : Ll B w v l) (hb : B ≤ B') : Ll B' w v l := by
  obtain ⟨a, cap, e, hc, h2⟩ := h
  refine ⟨a, cap, e, hc, h2.imp id ?_⟩
  rintro ⟨b, off, e2, hlt, hh⟩
  refine ⟨b, off, e2, by omega, fun j hj => ?_⟩
  obtain ⟨u, hu, hl⟩ := hh j hj
  exact ⟨u, hu, hl.wide hb⟩
theorem Ll.step {w w' : World} {v : Value} {l : List (List Int)} (h : Ll w.heap.size w v l) (hb : Below w.heap.size w w') : Ll w'.heap.size w' v l := (h.keep hb).wide hb.size
theorem Ll.nil (B : Nat) (w : World) : Ll B w (.slice none 0 0) [] := ⟨none, 0, rfl, Nat.le_refl _, .inl rfl⟩
theorem Fr.ll {w wr : World} {m : List (Nat × Int × Int)} {v : Value} {l : List (List Int)} (h : Fr w wr m) (hs : Ll w.heap.size w v l) : Ll wr.heap.size wr v l := (hs.keep h.below).wide h.size
theorem Ll.open {w : World} {v : Value} {l : List (List Int)} (h : Ll w.heap.size w v l) (h0 : l ≠ []) :
    ∃ b off cap, v = .slice (some ⟨b, off, none⟩) l.length cap ∧ l.length ≤ cap ∧ b < w.heap.size ∧ ∀ j, j < l.length → ∃ u, w.cell? ⟨b, off + j, none⟩ = some u ∧ Li w.heap.size w u (l[j]?.getD []) := by
  obtain ⟨a, cap, e, hc, h2⟩ := h
  rcases h2 with h2 | ⟨b, off, rfl, hlt, hh⟩
  · exact absurd h2 h0
  · exact ⟨b, off, cap, e, hc, hlt, hh⟩
/-- The blocks that are not the row's are as they were behind an append. -/
theorem Ls.grown {B : Nat} {w w' : World} {v : Value} {q : List (Int × Int)} {o : Option Nat} (h : Ls B w v q) (hB : B ≤ w.heap.size) (hg : w.grownBy w' o) (hn : ∀ g, v.ownBlock = some g → o ≠ some g) : Ls B w' v q := by
  obtain ⟨a, cap, e, hc, h2⟩ := h
  refine ⟨a, cap, e, hc, h2.imp id ?_⟩
  rintro ⟨b, off, e2, hlt, hh⟩
  have hne : o ≠ some b := hn b (by rw [e, e2]; rfl)
  have hbk := hg.block b (Nat.lt_of_lt_of_le hlt hB) (fun e => hne e.symm)
  refine ⟨b, off, e2, hlt, fun j hj => ?_⟩
  have hcell : ∀ i, w'.cell? ⟨b, i, none⟩ = w.cell? ⟨b, i, none⟩ := fun i => by unfold World.cell?; rw [hbk]
  rw [hcell, hcell]
  exact hh j hj
theorem Li.grown {B : Nat} {w w' : World} {v : Value} {q : List Int} {o : Option Nat} (h : Li B w v q) (hB : B ≤ w.heap.size) (hg : w.grownBy w' o) (hn : ∀ g, v.ownBlock = some g → o ≠ some g) : Li B w' v q := by
  obtain ⟨a, cap, e, h2⟩ := h
  refine ⟨a, cap, e, h2.imp id ?_⟩
  rintro ⟨b, off, e2, hlt, hh⟩
  have hne : o ≠ some b := hn b (by rw [e, e2]; rfl)
  have hbk := hg.block b (Nat.lt_of_lt_of_le hlt hB) (fun e => hne e.symm)
  refine ⟨b, off, e2, hlt, fun j hj => ?_⟩
  have hcell : ∀ i, w'.cell? ⟨b, i, none⟩ = w.cell? ⟨b, i, none⟩ := fun i => by unfold World.cell?; rw [hbk]
  rw [hcell]
  exact hh j hj
/-- A row of one's own that holds boxes: its values lie in other blocks. -/
structure RowB (base : Nat) (T : TypeId) (w : World) (u : Value) (l : List (List (Int × Int))) : Prop where
  row : ∃ xs : List Value, w.ownsRow base T 1 u l.length xs ∧ ∀ j, j < l.length → ∃ v, xs[j]? = some v ∧ Ls w.heap.size w v (l[j]?.getD []) ∧ ∀ g, v.ownBlock = some g → u.ownBlock ≠ some g
theorem RowB.lb {base : Nat} {T : TypeId} {w : World} {u : Value} {l : List (List (Int × Int))} (h : RowB base T w u l) : Lb w.heap.size w u l := by
  obtain ⟨xs, ho, hh⟩ := h.row
  rcases ho.2 with ⟨rfl, h0⟩ | ⟨g, cap, cur, rfl, _, hg, hle, _, hsz, hcur⟩
  · have : l = [] := List.length_eq_zero_iff.1 h0
    subst this; exact Lb.nil _ _
  · refine ⟨_, _, rfl, hle, .inr ⟨g, 0, rfl, (Array.getElem?_eq_some_iff.1 hg).1, fun j hj => ?_⟩⟩
    obtain ⟨v, hv, hl, _⟩ := hh j hj
    refine ⟨v, ?_, hl⟩
    rw [← hcur, List.getElem?_take_of_lt (by omega), Array.getElem?_toList] at hv
    simp [World.cell?, hg, hv]
theorem RowB.step {base : Nat} {T : TypeId} {w w' : World} {u : Value} {l : List (List (Int × Int))} (h : RowB base T w u l) (hb : Below w.heap.size w w') : RowB base T w' u l := by
  obtain ⟨xs, ho, hh⟩ := h.row
  refine ⟨xs, owns_keep ho hb, fun j hj => ?_⟩
  obtain ⟨v, hv, hl, hn⟩ := hh j hj
  exact ⟨v, hv, hl.step hb, hn⟩
/-- One box more, behind an append. -/
theorem RowB.more {base : Nat} {T : TypeId} {w w' : World} {u u' v : Value} {l : List (List (Int × Int))} {q : List (Int × Int)} {xs : List Value} (hh : ∀ j, j < l.length → ∃ v, xs[j]? = some v ∧ Ls w.heap.size w v (l[j]?.getD []) ∧ ∀ g, v.ownBlock = some g → u.ownBlock ≠ some g) (hx : xs.length = l.length)
    (hv : Ls w.heap.size w v q) (hvn : ∀ g, v.ownBlock = some g → u.ownBlock ≠ some g) (hlt : ∀ z : Value, ∀ q, Ls w.heap.size w z q → ∀ g, z.ownBlock = some g → q ≠ [] → g < w.heap.size)
    (hq : q ≠ []) (hne : ∀ j, j < l.length → l[j]?.getD [] ≠ [])
    (ho : w'.ownsRow base T 1 u' (l.length + 1) (xs ++ [v])) (hg : w.grownBy w' u.ownBlock) (hat : u'.ownBlock = u.ownBlock ∨ u'.ownBlock = some w.heap.size) : RowB base T w' u' (l ++ [q]) := by
  refine ⟨xs ++ [v], by rw [List.length_append]; exact ho, fun j hj => ?_⟩
  rw [List.length_append] at hj
  have key : ∀ (z : Value) (r : List (Int × Int)), r ≠ [] → Ls w.heap.size w z r → (∀ g, z.ownBlock = some g → u.ownBlock ≠ some g) → Ls w'.heap.size w' z r ∧ ∀ g, z.ownBlock = some g → u'.ownBlock ≠ some g := by
    intro z r hr hz hzn
    refine ⟨(hz.grown (Nat.le_refl _) hg hzn).wide hg.size, fun g hg' => ?_⟩
    rcases hat with e | e
    · rw [e]; exact hzn g hg'
    · rw [e]
      intro c
      cases c
      have := hlt z r hz _ hg' hr
      omega
  rcases (by have : j < l.length + 1 := hj; omega : j < l.length ∨ j = l.length) with c | rfl
  · obtain ⟨z, hz, hl, hn⟩ := hh j c
    obtain ⟨k1, k2⟩ := key z _ (hne j c) hl hn
    refine ⟨z, by rw [List.getElem?_append_left (by omega)]; exact hz, ?_, k2⟩
    rw [List.getElem?_append_left c]
    exact k1
  · obtain ⟨k1, k2⟩ := key v q hq hv hvn
    refine ⟨v, by rw [List.getElem?_append_right (by omega), hx, Nat.sub_self]; rfl, ?_, k2⟩
    rw [List.getElem?_append_right (Nat.le_refl _), Nat.sub_self]
    exact k1
theorem ls_block {w : World} {v : Value} {q : List (Int × Int)} (h : Ls w.heap.size w v q) (h0 : q ≠ []) : ∀ g, v.ownBlock = some g → g < w.heap.size := by
  obtain ⟨b, off, cap, rfl, _, hlt, _⟩ := h.out h0
  intro g hg
  have : b = g := by simpa [Value.ownBlock] using hg
  omega
end Go.Proofs.YthgehlonjoafmaaDoor
namespace Go.Proofs.YthgehlonjoafmaaDoor
set_option linter.unusedSimpArgs false
open Go.RowKit

theorem info_boxes : (Tryd.prog.info? 29).map (fun i => (i.zero, i.size, i.bytes)) = some (some (.slice none 0 0), 1, 24) := by kernel_rfl
theorem row_first {w : World} {v : Value} {q : List (Int × Int)} {base b : Nat} (hb : b = w.heap.size) (hbase : base ≤ w.heap.size) (hv : Ls w.heap.size w v q) (hq : q ≠ []) : RowB base 29 (w.alloc (.cells #[v] 29)) (.slice (some ⟨b, 0, none⟩) 1 1) [q] := by
  subst hb
  refine ⟨[v], ⟨rfl, .inr ⟨w.heap.size, 1, #[v], rfl, hbase, ?_, Nat.le_refl _, by unfold maxLen; omega, rfl, rfl⟩⟩, fun j hj => ?_⟩
  · show (w.heap.push _)[w.heap.size]? = _
    simp
  · obtain rfl : j = 0 := by simpa using hj
    refine ⟨v, rfl, hv.step ((Below.refl _ _).alloc (Nat.le_refl _) _), fun g hg => ?_⟩
    have := ls_block hv hq g hg
    intro e
    have : w.heap.size = g := by simpa [Value.ownBlock] using e
    omega
/-- Two boxes more, behind an append. -/
theorem RowB.more2 {base : Nat} {T : TypeId} {w w' : World} {u u' v1 v2 : Value} {l : List (List (Int × Int))} {q1 q2 : List (Int × Int)} {xs : List Value} (hh : ∀ j, j < l.length → ∃ v, xs[j]? = some v ∧ Ls w.heap.size w v (l[j]?.getD []) ∧ ∀ g, v.ownBlock = some g → u.ownBlock ≠ some g) (hx : xs.length = l.length)
    (hv1 : Ls w.heap.size w v1 q1) (hn1 : ∀ g, v1.ownBlock = some g → u.ownBlock ≠ some g) (hv2 : Ls w.heap.size w v2 q2) (hn2 : ∀ g, v2.ownBlock = some g → u.ownBlock ≠ some g)
    (hq1 : q1 ≠ []) (hq2 : q2 ≠ []) (hne : ∀ j, j < l.length → l[j]?.getD [] ≠ [])
    (ho : w'.ownsRow base T 1 u' (l.length + 2) (xs ++ [v1, v2])) (hg : w.grownBy w' u.ownBlock) (hat : u'.ownBlock = u.ownBlock ∨ u'.ownBlock = some w.heap.size) : RowB base T w' u' (l ++ [q1, q2]) := by
  refine ⟨xs ++ [v1, v2], by rw [List.length_append]; exact ho, fun j hj => ?_⟩
  rw [List.length_append] at hj
  have key : ∀ (z : Value) (r : List (Int × Int)), r ≠ [] → Ls w.heap.size w z r → (∀ g, z.ownBlock = some g → u.ownBlock ≠ some g) → Ls w'.heap.size w' z r ∧ ∀ g, z.ownBlock = some g → u'.ownBlock ≠ some g := by
    intro z r hr hz hzn
    refine ⟨(hz.grown (Nat.le_refl _) hg hzn).wide hg.size, fun g hg' => ?_⟩
    rcases hat with e | e
    · rw [e]; exact hzn g hg'
    · rw [e]
      intro c
      cases c
      have := ls_block hz hr _ hg'
      omega
  rcases (by have : j < l.length + 2 := hj; omega : j < l.length ∨ j = l.length ∨ j = l.length + 1) with c | rfl | rfl
  · obtain ⟨z, hz, hl, hn⟩ := hh j c
    obtain ⟨k1, k2⟩ := key z _ (hne j c) hl hn
    refine ⟨z, by rw [List.getElem?_append_left (by omega)]; exact hz, ?_, k2⟩
    rw [List.getElem?_append_left c]
    exact k1
  · obtain ⟨k1, k2⟩ := key v1 q1 hq1 hv1 hn1
    refine ⟨v1, by rw [List.getElem?_append_right (by omega), hx, Nat.sub_self]; rfl, ?_, k2⟩
    rw [List.getElem?_append_right (Nat.le_refl _), Nat.sub_self]
    exact k1
  · obtain ⟨k1, k2⟩ := key v2 q2 hq2 hv2 hn2
    refine ⟨v2, by rw [List.getElem?_append_right (by omega), hx, Nat.add_sub_cancel_left]; rfl, ?_, k2⟩
    rw [List.getElem?_append_right (by omega), Nat.add_sub_cancel_left]
    exact k1
end Go.Proofs.YthgehlonjoafmaaDoor
namespace Go.Proofs.YthgehlonjoafmaaDoor
set_option linter.unusedSimpArgs false
open Go.RowKit

/-- A row of one's own that holds lists of ints: its values lie in other blocks. -/
structure RowL (base : Nat) (T : TypeId) (w : World) (u : Value) (l : List (List Int)) : Prop where
  row : ∃ xs : List Value, w.ownsRow base T 1 u l.length xs ∧ ∀ j, j < l.length → ∃ v, xs[j]? = some v ∧ Li w.heap.size w v (l[j]?.getD []) ∧ ∀ g, v.ownBlock = some g → u.ownBlock ≠ some g
theorem RowL.ll {base : Nat} {T : TypeId} {w : World} {u : Value} {l : List (List Int)} (h : RowL base T w u l) : Ll w.heap.size w u l := by
  obtain ⟨xs, ho, hh⟩ := h.row
  rcases ho.2 with ⟨rfl, h0⟩ | ⟨g, cap, cur, rfl, _, hg, hle, _, hsz, hcur⟩
  · have : l = [] := List.length_eq_zero_iff.1 h0
    subst this; exact Ll.nil _ _
  · refine ⟨_, _, rfl, hle, .inr ⟨g, 0, rfl, (Array.getElem?_eq_some_iff.1 hg).1, fun j hj => ?_⟩⟩
    obtain ⟨v, hv, hl, _⟩ := hh j hj
    refine ⟨v, ?_, hl⟩
    rw [← hcur, List.getElem?_take_of_lt (by omega), Array.getElem?_toList] at hv
    simp [World.cell?, hg, hv]
theorem RowL.step {base : Nat} {T : TypeId} {w w' : World} {u : Value} {l : List (List Int)} (h : RowL base T w u l) (hb : Below w.heap.size w w') : RowL base T w' u l := by
  obtain ⟨xs, ho, hh⟩ := h.row
  refine ⟨xs, owns_keep ho hb, fun j hj => ?_⟩
  obtain ⟨v, hv, hl, hn⟩ := hh j hj
  exact ⟨v, hv, (hl.keep hb).wide hb.size, hn⟩
/-- One list more, behind an append. -/
theorem RowL.more {base : Nat} {T : TypeId} {w w' : World} {u u' v : Value} {l : List (List Int)} {q : List Int} {xs : List Value} (hh : ∀ j, j < l.length → ∃ v, xs[j]? = some v ∧ Li w.heap.size w v (l[j]?.getD []) ∧ ∀ g, v.ownBlock = some g → u.ownBlock ≠ some g) (hx : xs.length = l.length)
    (hv : Li w.heap.size w v q) (hvn : ∀ g, v.ownBlock = some g → u.ownBlock ≠ some g) (hlt : ∀ z : Value, ∀ q, Li w.heap.size w z q → ∀ g, z.ownBlock = some g → q ≠ [] → g < w.heap.size)
    (hq : q ≠ []) (hne : ∀ j, j < l.length → l[j]?.getD [] ≠ [])
    (ho : w'.ownsRow base T 1 u' (l.length + 1) (xs ++ [v])) (hg : w.grownBy w' u.ownBlock) (hat : u'.ownBlock = u.ownBlock ∨ u'.ownBlock = some w.heap.size) : RowL base T w' u' (l ++ [q]) := by
  refine ⟨xs ++ [v], by rw [List.length_append]; exact ho, fun j hj => ?_⟩
  rw [List.length_append] at hj
  have key : ∀ (z : Value) (r : List Int), r ≠ [] → Li w.heap.size w z r → (∀ g, z.ownBlock = some g → u.ownBlock ≠ some g) → Li w'.heap.size w' z r ∧ ∀ g, z.ownBlock = some g → u'.ownBlock ≠ some g := by
    intro z r hr hz hzn
    refine ⟨(hz.grown (Nat.le_refl _) hg hzn).wide hg.size, fun g hg' => ?_⟩
    rcases hat with e | e
    · rw [e]; exact hzn g hg'
    · rw [e]
      intro c
      cases c
      have := hlt z r hz _ hg' hr
      omega
  rcases (by have : j < l.length + 1 := hj; omega : j < l.length ∨ j = l.length) with c | rfl
  · obtain ⟨z, hz, hl, hn⟩ := hh j c
    obtain ⟨k1, k2⟩ := key z _ (hne j c) hl hn
    refine ⟨z, by rw [List.getElem?_append_left (by omega)]; exact hz, ?_, k2⟩
    rw [List.getElem?_append_left c]
    exact k1
  · obtain ⟨k1, k2⟩ := key v q hq hv hvn
    refine ⟨v, by rw [List.getElem?_append_right (by omega), hx, Nat.sub_self]; rfl, ?_, k2⟩
    rw [List.getElem?_append_right (Nat.le_refl _), Nat.sub_self]
    exact k1
theorem info_lists : (Tryd.prog.info? 41).map (fun i => (i.zero, i.size, i.bytes)) = some (some (.slice none 0 0), 1, 24) := by kernel_rfl
theorem li_block {w : World} {v : Value} {q : List Int} (h : Li w.heap.size w v q) (h0 : q ≠ []) : ∀ g, v.ownBlock = some g → g < w.heap.size := by
  obtain ⟨a, cap, rfl, h2⟩ := h
  rcases h2 with h2 | ⟨b, off, rfl, hlt, _⟩
  · exact absurd h2 h0
  intro g hg
  have : b = g := by simpa [Value.ownBlock] using hg
  omega
theorem row_list {E : TypeId} {w : World} {v : Value} {q : List Int} {base b : Nat} (hb : b = w.heap.size) (hbase : base ≤ w.heap.size) (hv : Li w.heap.size w v q) (hq : q ≠ []) : RowL base E (w.alloc (.cells #[v] E)) (.slice (some ⟨b, 0, none⟩) 1 1) [q] := by
  subst hb
  have hbl : Below w.heap.size w (w.alloc (.cells #[v] E)) := (Below.refl _ _).alloc (Nat.le_refl _) _
  refine ⟨[v], ⟨rfl, .inr ⟨w.heap.size, 1, #[v], rfl, hbase, ?_, Nat.le_refl _, by unfold maxLen; omega, rfl, rfl⟩⟩, fun j hj => ?_⟩
  · show (w.heap.push _)[w.heap.size]? = _
    simp
  · obtain rfl : j = 0 := by simpa using hj
    refine ⟨v, rfl, (hv.keep hbl).wide hbl.size, fun g hg => ?_⟩
    have := li_block hv hq g hg
    intro e
    have : w.heap.size = g := by simpa [Value.ownBlock] using e
    omega
end Go.Proofs.YthgehlonjoafmaaDoor
namespace Go.Free
/-- What hangs on an operation that has not come has not come. -/
theorem never {listed : Array Bool} {i j : Nat} {p : Prop} (h : listed.getD j false = true → listed.getD i false = true) (hn : listed.getD i true = false) (hne : i ≠ j) (e : (listed.setIfInBounds i true).getD j false = true) : p := by
  have q := h (back hne e)
  rw [off hn] at q; cases q
end Go.Free
namespace Go.Proofs.YthgehlonjoafmaaDoor
set_option linter.unusedSimpArgs false
open Go.RowKit

/-- The cells of terms, one behind the other. -/
def cellsT : List Um.Tm → List Value
  | [] => []
  | t :: l => .int .i64 t.1 :: .int .i64 t.2.1 :: .int .i64 t.2.2.1 :: .int .i64 t.2.2.2 :: cellsT l
theorem cellsT_length : ∀ l : List Um.Tm, (cellsT l).length = l.length * 4
  | [] => rfl
  | _ :: l => by show (cellsT l).length + 1 + 1 + 1 + 1 = (l.length + 1) * 4; rw [cellsT_length l]; omega
theorem cellsT_append : ∀ l m : List Um.Tm, cellsT (l ++ m) = cellsT l ++ cellsT m
  | [], _ => rfl
  | t :: l, m => by show .int .i64 t.1 :: .int .i64 t.2.1 :: .int .i64 t.2.2.1 :: .int .i64 t.2.2.2 :: cellsT (l ++ m) = _; rw [cellsT_append l m]; rfl
theorem cellsT_at : ∀ (l : List Um.Tm) (j : Nat), j < l.length → (cellsT l)[j * 4]? = some (.int .i64 (Um.tm l j).1) ∧ (cellsT l)[j * 4 + 1]? = some (.int .i64 (Um.tm l j).2.1) ∧ (cellsT l)[j * 4 + 1 + 1]? = some (.int .i64 (Um.tm l j).2.2.1) ∧ (cellsT l)[j * 4 + 1 + 2]? = some (.int .i64 (Um.tm l j).2.2.2)
  | [], _, h => by simp at h
  | t :: l, 0, _ => ⟨rfl, rfl, rfl, rfl⟩
  | t :: l, j + 1, h => by
    obtain ⟨i1, i2, i3, i4⟩ := cellsT_at l j (by simpa using h)
    have e : Um.tm (t :: l) (j + 1) = Um.tm l j := rfl
    rw [e]
    show (.int .i64 t.1 :: .int .i64 t.2.1 :: .int .i64 t.2.2.1 :: .int .i64 t.2.2.2 :: cellsT l)[(j + 1) * 4]? = _ ∧ _
    rw [show (j + 1) * 4 = j * 4 + 1 + 1 + 1 + 1 by omega]
    refine ⟨by simpa using i1, ?_, ?_, ?_⟩
    · show (.int .i64 t.1 :: .int .i64 t.2.1 :: .int .i64 t.2.2.1 :: .int .i64 t.2.2.2 :: cellsT l)[j * 4 + 1 + 1 + 1 + 1 + 1]? = _
      simpa using i2
    · show (.int .i64 t.1 :: .int .i64 t.2.1 :: .int .i64 t.2.2.1 :: .int .i64 t.2.2.2 :: cellsT l)[j * 4 + 1 + 1 + 1 + 1 + 1 + 1]? = _
      simpa using i3
    · show (.int .i64 t.1 :: .int .i64 t.2.1 :: .int .i64 t.2.2.1 :: .int .i64 t.2.2.2 :: cellsT l)[j * 4 + 1 + 1 + 1 + 1 + 1 + 2]? = _
      rw [show j * 4 + 1 + 1 + 1 + 1 + 1 + 2 = j * 4 + 1 + 2 + 1 + 1 + 1 + 1 by omega]
      simpa using i4
theorem lt_owns {w : World} {base E : Nat} {v : Value} {l : List Um.Tm} (h : w.ownsRow base E 4 v l.length (cellsT l)) : Lt w.heap.size w v l := by
  rcases h.2 with ⟨rfl, h0⟩ | ⟨g, cap, cur, rfl, _, hg, hle, _, hsz, hcur⟩
  · have : l = [] := List.length_eq_zero_iff.1 h0
    subst this; exact Lt.nil _ _
  · refine ⟨_, _, rfl, hle, .inr ⟨g, 0, rfl, (Array.getElem?_eq_some_iff.1 hg).1, fun j hj => ?_⟩⟩
    have key : ∀ i, i < l.length * 4 → w.cell? ⟨g, 0 + i, none⟩ = (cellsT l)[i]? := by
      intro i hi
      rw [← hcur, List.getElem?_take_of_lt hi, Array.getElem?_toList]
      simp [World.cell?, hg]
    obtain ⟨i1, i2, i3, i4⟩ := cellsT_at l j hj
    refine ⟨(key (j * 4) (by omega)).trans i1, ?_, ?_, ?_⟩
    · exact (key (j * 4 + 1) (by omega)).trans i2
    · exact (key (j * 4 + 1 + 1) (by omega)).trans i3
    · exact (key (j * 4 + 1 + 2) (by omega)).trans i4
end Go.Proofs.YthgehlonjoafmaaDoor
