/-
  Bytes in memory, and lists of them: what is read of them, what they are behind a call, of a row of one's own.
-/
import Derived.Test.YthgehlonjoafmaaDoorMems
import Derived.OwnWalk
import Derived.Laws.OwnMore
namespace Go.Proofs.YthgehlonjoafmaaDoor
set_option linter.unusedSimpArgs false
open Go.RowKit

/-- The slice value v holds the bytes l, in a block below B. -/
def Lu (B : Nat) (w : World) (v : Value) (l : List Int) : Prop :=
  ∃ a cap, v = .slice a l.length cap ∧ l.length ≤ cap ∧ (l = [] ∨ ∃ b off, a = some ⟨b, off, none⟩ ∧ b < B ∧ ∀ j, j < l.length → w.cell? ⟨b, off + j, none⟩ = some (.int .u8 (l[j]?.getD 0)))
theorem Lu.keep {B : Nat} {w w' : World} {v : Value} {l : List Int} (h : Lu B w v l) (hb : Below B w w') : Lu B w' v l := by
  obtain ⟨a, cap, e, hc, h2⟩ := h
  refine ⟨a, cap, e, hc, h2.imp id ?_⟩
  rintro ⟨b, off, e2, hlt, hh⟩
  exact ⟨b, off, e2, hlt, fun j hj => (hb.cell (p := ⟨b, off + j, none⟩) hlt).trans (hh j hj)⟩
theorem Lu.wide {B B' : Nat} {w : World} {v : Value} {l : List Int} (h : Lu B w v l) (hb : B ≤ B') : Lu B' w v l := by
  obtain ⟨a, cap, e, hc, h2⟩ := h
  refine ⟨a, cap, e, hc, h2.imp id ?_⟩
  rintro ⟨b, off, e2, hlt, hh⟩
  exact ⟨b, off, e2, by omega, hh⟩
theorem Lu.step {w w' : World} {v : Value} {l : List Int} (h : Lu w.heap.size w v l) (hb : Below w.heap.size w w') : Lu w'.heap.size w' v l := (h.keep hb).wide hb.size
theorem Lu.nil (B : Nat) (w : World) : Lu B w (.slice none 0 0) [] := ⟨none, 0, rfl, Nat.le_refl _, .inl rfl⟩
theorem Lu.out {B : Nat} {w : World} {v : Value} {l : List Int} (h : Lu B w v l) (h0 : l ≠ []) :
    ∃ b off cap, v = .slice (some ⟨b, off, none⟩) l.length cap ∧ l.length ≤ cap ∧ b < B ∧ ∀ j, j < l.length → w.cell? ⟨b, off + j, none⟩ = some (.int .u8 (l[j]?.getD 0)) := by
  obtain ⟨a, cap, e, hc, h2⟩ := h
  rcases h2 with h2 | ⟨b, off, rfl, hlt, hh⟩
  · exact absurd h2 h0
  · exact ⟨b, off, cap, e, hc, hlt, hh⟩
/-- The first of them, and what is behind these. -/
theorem Lu.head {B : Nat} {w : World} {b off cap k : Nat} {l l' : List Int} (hlt : b < B) (hh : ∀ j, j < l.length → w.cell? ⟨b, off + j, none⟩ = some (.int .u8 (l[j]?.getD 0))) (hk : k = l'.length) (hc : k ≤ cap) (hl : l' = l.take k) : Lu B w (.slice (some ⟨b, off, none⟩) k cap) l' := by
  have hle : l'.length ≤ l.length := by rw [hl, List.length_take]; omega
  refine ⟨_, _, by rw [hk], by omega, .inr ⟨b, off, rfl, hlt, fun j hj => ?_⟩⟩
  rw [hh j (by omega), hl, List.getElem?_take_of_lt (by omega)]
theorem Lu.rest {B : Nat} {w : World} {b off cap k m o : Nat} {l l' : List Int} (hlt : b < B) (hh : ∀ j, j < l.length → w.cell? ⟨b, off + j, none⟩ = some (.int .u8 (l[j]?.getD 0))) (hm : m = l'.length) (hc : m ≤ cap) (ho : o = off + k) (hl : l' = l.drop k) : Lu B w (.slice (some ⟨b, o, none⟩) m cap) l' := by
  subst ho
  have hle : l'.length = l.length - k := by rw [hl, List.length_drop]
  refine ⟨_, _, by rw [hm], by omega, .inr ⟨b, off + k, rfl, hlt, fun j hj => ?_⟩⟩
  rw [Nat.add_assoc, hh (k + j) (by omega), hl, List.getElem?_drop]
theorem Lu.none {B : Nat} {w : World} {a : Option Addr} {m cap : Nat} {l : List Int} (hm : m = l.length) (h0 : l = []) (hc : m ≤ cap) : Lu B w (.slice a m cap) l := ⟨a, cap, by rw [hm], by omega, .inl h0⟩
/-- The slice value v holds these lists of bytes, all in blocks below B. -/
def Lw (B : Nat) (w : World) (v : Value) (l : List (List Int)) : Prop :=
  ∃ a cap, v = .slice a l.length cap ∧ l.length ≤ cap ∧ (l = [] ∨ ∃ b off, a = some ⟨b, off, none⟩ ∧ b < B ∧ ∀ j, j < l.length → ∃ u, w.cell? ⟨b, off + j, none⟩ = some u ∧ Lu B w u (l[j]?.getD []))
theorem Lw.keep {B : Nat} {w w' : World} {v : Value} {l : List (List Int)} (h : Lw B w v l) (hb : Below B w w') : Lw B w' v l := by
  obtain ⟨a, cap, e, hc, h2⟩ := h
  refine ⟨a, cap, e, hc, h2.imp id ?_⟩
  rintro ⟨b, off, e2, hlt, hh⟩
  refine ⟨b, off, e2, hlt, fun j hj => ?_⟩
  obtain ⟨u, hu, hl⟩ := hh j hj
  exact ⟨u, (hb.cell (p := ⟨b, off + j, none⟩) hlt).trans hu, hl.keep hb⟩
theorem Lw.wide {B B' : Nat} {w : World} {v : Value} {l : List (List Int)} (h : Lw B w v l) (hb : B ≤ B') : Lw B' w v l := by
  obtain ⟨a, cap, e, hc, h2⟩ := h
  refine ⟨a, cap, e, hc, h2.imp id ?_⟩
  rintro ⟨b, off, e2, hlt, hh⟩
  refine ⟨b, off, e2, by omega, fun j hj => ?_⟩
  obtain ⟨u, hu, hl⟩ := hh j hj
  exact ⟨u, hu, hl.wide hb⟩
theorem Lw.step {w w' : World} {v : Value} {l : List (List Int)} (h : Lw w.heap.size w v l) (hb : Below w.heap.size w w') : Lw w'.heap.size w' v l := (h.keep hb).wide hb.size
theorem Lw.nil (B : Nat) (w : World) : Lw B w (.slice none 0 0) [] := ⟨none, 0, rfl, Nat.le_refl _, .inl rfl⟩
theorem Lw.open {w : World} {v : Value} {l : List (List Int)} (h : Lw w.heap.size w v l) (h0 : l ≠ []) :
    ∃ b off cap, v = .slice (some ⟨b, off, none⟩) l.length cap ∧ l.length ≤ cap ∧ b < w.heap.size ∧ ∀ j, j < l.length → ∃ u, w.cell? ⟨b, off + j, none⟩ = some u ∧ Lu w.heap.size w u (l[j]?.getD []) := by
  obtain ⟨a, cap, e, hc, h2⟩ := h
  rcases h2 with h2 | ⟨b, off, rfl, hlt, hh⟩
  · exact absurd h2 h0
  · exact ⟨b, off, cap, e, hc, hlt, hh⟩
/-- A row of one's own that holds lists of bytes from before. -/
structure RowW (w wr : World) (T : TypeId) (u : Value) (l : List (List Int)) : Prop where
  below : Below w.heap.size w wr
  row : ∃ xs : List Value, wr.ownsRow w.heap.size T 1 u l.length xs ∧ ∀ j, j < l.length → ∃ v, xs[j]? = some v ∧ Lu w.heap.size w v (l[j]?.getD [])
theorem RowW.start (w : World) (T : TypeId) : RowW w w T (.slice none 0 0) [] := ⟨Below.refl _ _, [], World.ownsRow_nil _ _ _ _, fun _ hj => absurd hj (Nat.not_lt_zero _)⟩
theorem RowW.lw {w wr : World} {T : TypeId} {u : Value} {l : List (List Int)} (h : RowW w wr T u l) : Lw wr.heap.size wr u l := by
  obtain ⟨xs, ho, hh⟩ := h.row
  rcases ho.2 with ⟨rfl, h0⟩ | ⟨g, cap, cur, rfl, _, hg, hle, _, hsz, hcur⟩
  · have : l = [] := List.length_eq_zero_iff.1 h0
    subst this; exact Lw.nil _ _
  · refine ⟨_, _, rfl, hle, .inr ⟨g, 0, rfl, (Array.getElem?_eq_some_iff.1 hg).1, fun j hj => ?_⟩⟩
    obtain ⟨v, hv, hl⟩ := hh j hj
    refine ⟨v, ?_, (hl.keep h.below).wide h.below.size⟩
    rw [← hcur, List.getElem?_take_of_lt (by omega), Array.getElem?_toList] at hv
    simp [World.cell?, hg, hv]
theorem RowW.more {w w' : World} {T : TypeId} {u' v : Value} {l : List (List Int)} {q : List Int} {xs : List Value} {n : Nat} (hb : Below w.heap.size w w') (hh : ∀ j, j < l.length → ∃ v, xs[j]? = some v ∧ Lu w.heap.size w v (l[j]?.getD [])) (hn : n = l.length) (hx : xs.length = n) (hv : Lu w.heap.size w v q) (ho : w'.ownsRow w.heap.size T 1 u' (n + 1) (xs ++ [v])) : RowW w w' T u' (l ++ [q]) := by
  subst hn
  refine ⟨hb, xs ++ [v], by rw [List.length_append]; exact ho, fun j hj => ?_⟩
  rw [List.length_append] at hj
  rcases (by have : j < l.length + 1 := hj; omega : j < l.length ∨ j = l.length) with c | rfl
  · obtain ⟨z, hz, hl⟩ := hh j c
    refine ⟨z, by rw [List.getElem?_append_left (by omega)]; exact hz, ?_⟩
    rw [List.getElem?_append_left c]
    exact hl
  · refine ⟨v, by rw [List.getElem?_append_right (by omega), hx, Nat.sub_self]; rfl, ?_⟩
    rw [List.getElem?_append_right (Nat.le_refl _), Nat.sub_self]
    exact hv
/-- The cells of bytes. -/
abbrev bytesV (l : List Int) : List Value := l.map (Value.int .u8)
theorem bytesV_append (a b : List Int) : bytesV (a ++ b) = bytesV a ++ bytesV b := List.map_append
theorem bytes_one (l : List Int) : ∀ u ∈ bytesV l, u.oneCell' = true := by
  intro u hu
  obtain ⟨_, _, rfl⟩ := List.mem_map.1 hu
  rfl
theorem bytes_cells {w : World} {b off : Nat} {q : List Int} (h : ∀ j, j < q.length → w.cell? ⟨b, off + j, none⟩ = some (.int .u8 (q[j]?.getD 0))) : ∀ j u, (bytesV q)[j]? = some u → w.cell? ((⟨b, off, none⟩ : Addr).add j) = some u := by
  intro j u hu
  have hj : j < q.length := by simpa using (List.getElem?_eq_some_iff.1 hu).1
  rw [Addr.add_lit, h j hj]
  rw [List.getElem?_map, List.getElem?_eq_getElem hj] at hu
  rw [List.getElem?_eq_getElem hj]
  exact hu
theorem lu_owns {w : World} {base E : Nat} {v : Value} {l : List Int} (h : w.ownsRow base E 1 v l.length (bytesV l)) : Lu w.heap.size w v l := by
  rcases h.2 with ⟨rfl, h0⟩ | ⟨g, cap, cur, rfl, _, hg, hle, _, hsz, hcur⟩
  · have : l = [] := List.length_eq_zero_iff.1 h0
    subst this; exact Lu.nil _ _
  · refine ⟨_, _, rfl, hle, .inr ⟨g, 0, rfl, (Array.getElem?_eq_some_iff.1 hg).1, fun j hj => ?_⟩⟩
    have key : w.cell? ⟨g, 0 + j, none⟩ = (bytesV l)[j]? := by
      rw [← hcur, List.getElem?_take_of_lt (by omega), Array.getElem?_toList]
      simp [World.cell?, hg]
    rw [key, List.getElem?_map, List.getElem?_eq_getElem hj]; rfl
/-- A row of one's own that is cut shorter. -/
theorem owns_cut {w : World} {base E size n m g cap : Nat} {xs : List Value} (h : w.ownsRow base E size (.slice (some ⟨g, 0, none⟩) n cap) n xs) (hm : m ≤ n) : w.ownsRow base E size (.slice (some ⟨g, 0, none⟩) m cap) m (xs.take (m * size)) := by
  rcases h.2 with ⟨e, _⟩ | ⟨g', cap', cur, e, hb, hg, hle, hcm, hsz, hcur⟩
  · cases e
  · cases e
    have hms : m * size ≤ n * size := Nat.mul_le_mul_right _ hm
    refine ⟨by rw [List.length_take, h.1]; omega, .inr ⟨g, cap, cur, rfl, hb, hg, by omega, hcm, hsz, ?_⟩⟩
    rw [← hcur, List.take_take]
    congr 1
    omega
theorem info_byte : (Tryd.prog.info? 5).map (fun i => (i.zero, i.size, i.bytes)) = some (some (.int .u8 0), 1, 1) := by kernel_rfl
theorem info_bytes : (Tryd.prog.info? 48).map (fun i => (i.zero, i.size, i.bytes)) = some (some (.slice none 0 0), 1, 24) := by kernel_rfl
theorem cell_one_at (w : World) (x : Value) (t : TypeId) {b : Nat} (hb : b = w.heap.size) : ∀ j u, [x][j]? = some u → (w.alloc (.cells #[x] t)).cell? ((⟨b, 0, none⟩ : Addr).add j) = some u := by
  subst hb; exact cell_one_new w x t
theorem cell_four_at (w : World) (a b c d : Value) (t : TypeId) {g : Nat} (hg : g = w.heap.size) : ∀ j u, [a, b, c, d][j]? = some u → (w.alloc (.cells #[a, b, c, d] t)).cell? ((⟨g, 0, none⟩ : Addr).add j) = some u := by
  subst hg
  intro j u hj
  match j, hj with
  | 0, hj => simp at hj; subst hj; simp [Addr.add]
  | 1, hj => simp at hj; subst hj; simp [Addr.add]
  | 2, hj => simp at hj; subst hj; simp [Addr.add]
  | 3, hj => simp at hj; subst hj; simp [Addr.add]
  | k + 4, hj => simp at hj
end Go.Proofs.YthgehlonjoafmaaDoor
