/-
  A row of one's own that make makes and a loop fills by stores, of lists of spans and of lists of ints; slices.Clone of a list of ints.
-/
import Derived.Test.YthgehlonjoafmaaGreatDoorMems2
import Derived.Test.YthgehlonjoafmaaGreatDoorBoxV
import Derived.Test.YthgehlonjoafmaaGreatDoorMems
namespace Go.Proofs.YthgehlonjoafmaaGreatDoor
set_option linter.unusedSimpArgs false
open Go.RowKit

theorem made_all {x : Value} {m : Nat} : ∀ (j : Nat) (u : Value), (madeCells #[x] m).toList[j]? = some u → u = x := by
  intro j u h
  have hj : j < m := by
    have := (List.getElem?_eq_some_iff.1 h).1
    simpa [madeCells] using this
  have e : (madeCells #[x] m).toList[j]? = some x := by simp [madeCells, hj, Nat.mod_one]
  rw [e] at h
  exact (Option.some.inj h).symm
theorem own_cells {w : World} {base : Nat} {T : TypeId} {B n : Nat} {xs : List Value} (h : w.ownsRow base T 1 (.slice (some ⟨B, 0, none⟩) n n) n xs) {j : Nat} {u : Value} (hc : w.cell? ⟨B, j, none⟩ = some u) : xs[j]? = some u := by
  rcases h.2 with ⟨h', _⟩ | ⟨g', cap', cur, h', _, hg, _, _, hsz, htake⟩
  · simp at h'
  · simp only [Value.slice.injEq, Option.some.injEq, Addr.mk.injEq, and_true, true_and] at h'
    obtain ⟨rfl, rfl⟩ := h'
    rw [cell_of_row w B j cur T (0, 0) hg] at hc
    have hj : j < cur.size := (Array.getElem?_eq_some_iff.1 hc).1
    rw [← htake, List.getElem?_take, if_pos (by omega), Array.getElem?_toList]
    exact hc
/-- All of them are slices. -/
def slicesV (xs : List Value) : Prop := ∀ (j : Nat) (u : Value), xs[j]? = some u → ∃ (a : Option Addr) (m c : Nat), u = .slice a m c
theorem slicesV.set {xs : List Value} (h : slicesV xs) (k : Nat) (a : Option Addr) (m c : Nat) : slicesV (xs.set k (.slice a m c)) := by
  intro j u hu
  by_cases e : k = j
  · subst e
    have hk : k < xs.length := by simpa using (List.getElem?_eq_some_iff.1 hu).1
    rw [List.getElem?_set_self hk] at hu
    exact ⟨a, m, c, (Option.some.inj hu).symm⟩
  · rw [List.getElem?_set_ne e] at hu
    exact h j u hu

/-- A list that lies in memory stays behind a store into a row of slices. -/
theorem Ls.beside {wr : World} {base n B : Nat} {T : TypeId} {xs : List Value} (ho : wr.ownsRow base T 1 (.slice (some ⟨B, 0, none⟩) n n) n xs) (hx : slicesV xs) {v : Value} {q : List (Int × Int)} (h : Ls wr.heap.size wr v q) (k : Nat) (u : Value) : Ls (wr.setCell ⟨B, k, none⟩ u).heap.size (wr.setCell ⟨B, k, none⟩ u) v q := by
  obtain ⟨a, cap, e, hc, h2⟩ := h
  refine ⟨a, cap, e, hc, h2.imp id ?_⟩
  rintro ⟨b, off, e2, hlt, hh⟩
  rcases Nat.eq_zero_or_pos q.length with h0 | h0
  · exact ⟨b, off, e2, by simpa using hlt, fun j hj => by omega⟩
  · have hne : b ≠ B := by
      intro e3
      subst e3
      obtain ⟨a', m', c', e4⟩ := hx _ _ (own_cells ho (hh 0 h0).1)
      cases e4
    have hcell : ∀ i, (wr.setCell ⟨B, k, none⟩ u).cell? ⟨b, i, none⟩ = wr.cell? ⟨b, i, none⟩ := fun i => by unfold World.cell?; rw [Below.heap_setCell _ _ _ _ hne]
    refine ⟨b, off, e2, by simpa using hlt, fun j hj => ?_⟩
    simp only [hcell]
    exact hh j hj
/-- A row of n lists of one's own, of which the first are told. -/
structure RowLs (w : World) (n B : Nat) (wr : World) (l : List (List (Int × Int))) : Prop where
  below : Below w.heap.size w wr
  most : l.length ≤ n
  row : ∃ xs : List Value, wr.ownsRow w.heap.size 23 1 (.slice (some ⟨B, 0, none⟩) n n) n xs ∧ slicesV xs ∧ ∀ j, j < l.length → ∃ v, xs[j]? = some v ∧ Ls wr.heap.size wr v (l[j]?.getD [])
theorem RowLs.start {w w0 : World} {n B : Nat} (hg : w.grownBy w0 none)
    (hr : w0.ownsRow w.heap.size 23 1 (.slice (some ⟨B, 0, none⟩) n n) n (madeCells (Value.slice none 0 0).cells (n * 1)).toList) : RowLs w n B w0 [] := by
  refine ⟨(Below.refl w.heap.size w).grown hg (Nat.le_refl _) (fun j e => by cases e), Nat.zero_le _, _, hr, ?_, fun j hj => absurd hj (Nat.not_lt_zero _)⟩
  intro j u hu
  exact ⟨none, 0, 0, made_all j u hu⟩
theorem RowLs.step {w wr w' : World} {n B : Nat} {l : List (List (Int × Int))} (h : RowLs w n B wr l) (hb : Below wr.heap.size wr w') : RowLs w n B w' l := by
  obtain ⟨xs, ho, hx, hh⟩ := h.row
  refine ⟨h.below.trans (hb.mono h.below.size), h.most, xs, owns_keep ho hb, hx, fun j hj => ?_⟩
  obtain ⟨v, hv, hl⟩ := hh j hj
  exact ⟨v, hv, (hl.keep hb).wide hb.size⟩
theorem RowLs.old {w wr : World} {n B : Nat} {l : List (List (Int × Int))} (h : RowLs w n B wr l) {k : Nat} (hn : k < n) : ∃ a m c, wr.cell? ⟨B, k, none⟩ = some (.slice a m c) := by
  obtain ⟨xs, ho, hx, -⟩ := h.row
  have hk : k < xs.length := by rw [ho.1]; omega
  obtain ⟨a, m, c, e⟩ := hx k xs[k] (List.getElem?_eq_getElem hk)
  refine ⟨a, m, c, ?_⟩
  rw [ho.cellAt k (by omega), List.getElem?_eq_getElem hk, e]
theorem RowLs.free {w wr : World} {n B : Nat} {l : List (List (Int × Int))} (h : RowLs w n B wr l) (k : Nat) : wr.frozen? ⟨B, k, none⟩ = false := by
  obtain ⟨xs, ho, -, -⟩ := h.row
  exact ho.frozenAt k
theorem RowLs.at {w wr : World} {n B : Nat} {l : List (List (Int × Int))} (h : RowLs w n B wr l) {k : Nat} (hk : k < l.length) : ∃ v, wr.cell? ⟨B, k, none⟩ = some v ∧ Ls wr.heap.size wr v (l[k]?.getD []) := by
  obtain ⟨xs, ho, -, hh⟩ := h.row
  obtain ⟨v, hv, hl⟩ := hh k hk
  have := h.most
  exact ⟨v, (ho.cellAt k (by omega)).trans hv, hl⟩
theorem RowLs.ge {w wr : World} {n B : Nat} {l : List (List (Int × Int))} (h : RowLs w n B wr l) : w.heap.size ≤ B := by
  obtain ⟨xs, ho, -, -⟩ := h.row
  exact owns_from ho B rfl
theorem RowLs.put {w wr : World} {n B : Nat} {l : List (List (Int × Int))} (h : RowLs w n B wr l) {k : Nat} (hk : k = l.length) (hn : k < n) {a : Option Addr} {m c : Nat} {q : List (Int × Int)} (hv : Ls wr.heap.size wr (.slice a m c) q) :
    RowLs w n B (wr.setCell ⟨B, k, none⟩ (.slice a m c)) (l ++ [q]) := by
  subst hk
  have g := h.ge
  obtain ⟨xs, ho, hx, hh⟩ := h.row
  have hxl : l.length < xs.length := by rw [ho.1]; omega
  refine ⟨h.below.setCell (by show w.heap.size ≤ B; omega) _, by rw [List.length_append]; show l.length + 1 ≤ n; omega, _, (ho.stored l.length (.slice a m c)).1, hx.set _ _ _ _, fun j hj => ?_⟩
  rw [List.length_append] at hj
  rcases (by have : j < l.length + 1 := hj; omega : j < l.length ∨ j = l.length) with d | rfl
  · obtain ⟨z, hz, hl⟩ := hh j d
    refine ⟨z, by rw [List.getElem?_set_ne (by omega)]; exact hz, ?_⟩
    rw [List.getElem?_append_left d]
    exact hl.beside ho hx _ _
  · refine ⟨_, List.getElem?_set_self hxl, ?_⟩
    rw [List.getElem?_append_right (Nat.le_refl _), Nat.sub_self]
    exact hv.beside ho hx _ _
theorem RowLs.all {w wr : World} {n B : Nat} {l : List (List (Int × Int))} (h : RowLs w n B wr l) (hl : l.length = n) : Lb wr.heap.size wr (.slice (some ⟨B, 0, none⟩) n n) l := by
  subst hl
  obtain ⟨xs, ho, -, hh⟩ := h.row
  have hB : B < wr.heap.size := (World.ownsRow.lt ho B rfl).2
  refine ⟨_, _, rfl, Nat.le_refl _, .inr ⟨B, 0, rfl, hB, fun j hj => ?_⟩⟩
  obtain ⟨v, hv, hl⟩ := hh j hj
  refine ⟨v, ?_, hl⟩
  rw [Nat.zero_add, ho.cellAt j (by omega)]
  exact hv

/-- A list that lies in memory stays behind a store into a row of slices. -/
theorem Li.beside {wr : World} {base n B : Nat} {T : TypeId} {xs : List Value} (ho : wr.ownsRow base T 1 (.slice (some ⟨B, 0, none⟩) n n) n xs) (hx : slicesV xs) {v : Value} {q : List (Int)} (h : Li wr.heap.size wr v q) (k : Nat) (u : Value) : Li (wr.setCell ⟨B, k, none⟩ u).heap.size (wr.setCell ⟨B, k, none⟩ u) v q := by
  obtain ⟨a, cap, e, h2⟩ := h
  refine ⟨a, cap, e, h2.imp id ?_⟩
  rintro ⟨b, off, e2, hlt, hh⟩
  rcases Nat.eq_zero_or_pos q.length with h0 | h0
  · exact ⟨b, off, e2, by simpa using hlt, fun j hj => by omega⟩
  · have hne : b ≠ B := by
      intro e3
      subst e3
      obtain ⟨a', m', c', e4⟩ := hx _ _ (own_cells ho (hh 0 h0))
      cases e4
    have hcell : ∀ i, (wr.setCell ⟨B, k, none⟩ u).cell? ⟨b, i, none⟩ = wr.cell? ⟨b, i, none⟩ := fun i => by unfold World.cell?; rw [Below.heap_setCell _ _ _ _ hne]
    refine ⟨b, off, e2, by simpa using hlt, fun j hj => ?_⟩
    simp only [hcell]
    exact hh j hj
/-- A row of n lists of one's own, of which the first are told. -/
structure RowLi (w : World) (n B : Nat) (wr : World) (l : List (List (Int))) : Prop where
  below : Below w.heap.size w wr
  most : l.length ≤ n
  row : ∃ xs : List Value, wr.ownsRow w.heap.size 52 1 (.slice (some ⟨B, 0, none⟩) n n) n xs ∧ slicesV xs ∧ ∀ j, j < l.length → ∃ v, xs[j]? = some v ∧ Li wr.heap.size wr v (l[j]?.getD [])
theorem RowLi.start {w w0 : World} {n B : Nat} (hg : w.grownBy w0 none)
    (hr : w0.ownsRow w.heap.size 52 1 (.slice (some ⟨B, 0, none⟩) n n) n (madeCells (Value.slice none 0 0).cells (n * 1)).toList) : RowLi w n B w0 [] := by
  refine ⟨(Below.refl w.heap.size w).grown hg (Nat.le_refl _) (fun j e => by cases e), Nat.zero_le _, _, hr, ?_, fun j hj => absurd hj (Nat.not_lt_zero _)⟩
  intro j u hu
  exact ⟨none, 0, 0, made_all j u hu⟩
theorem RowLi.step {w wr w' : World} {n B : Nat} {l : List (List (Int))} (h : RowLi w n B wr l) (hb : Below wr.heap.size wr w') : RowLi w n B w' l := by
  obtain ⟨xs, ho, hx, hh⟩ := h.row
  refine ⟨h.below.trans (hb.mono h.below.size), h.most, xs, owns_keep ho hb, hx, fun j hj => ?_⟩
  obtain ⟨v, hv, hl⟩ := hh j hj
  exact ⟨v, hv, (hl.keep hb).wide hb.size⟩
theorem RowLi.old {w wr : World} {n B : Nat} {l : List (List (Int))} (h : RowLi w n B wr l) {k : Nat} (hn : k < n) : ∃ a m c, wr.cell? ⟨B, k, none⟩ = some (.slice a m c) := by
  obtain ⟨xs, ho, hx, -⟩ := h.row
  have hk : k < xs.length := by rw [ho.1]; omega
  obtain ⟨a, m, c, e⟩ := hx k xs[k] (List.getElem?_eq_getElem hk)
  refine ⟨a, m, c, ?_⟩
  rw [ho.cellAt k (by omega), List.getElem?_eq_getElem hk, e]
theorem RowLi.free {w wr : World} {n B : Nat} {l : List (List (Int))} (h : RowLi w n B wr l) (k : Nat) : wr.frozen? ⟨B, k, none⟩ = false := by
  obtain ⟨xs, ho, -, -⟩ := h.row
  exact ho.frozenAt k
theorem RowLi.at {w wr : World} {n B : Nat} {l : List (List (Int))} (h : RowLi w n B wr l) {k : Nat} (hk : k < l.length) : ∃ v, wr.cell? ⟨B, k, none⟩ = some v ∧ Li wr.heap.size wr v (l[k]?.getD []) := by
  obtain ⟨xs, ho, -, hh⟩ := h.row
  obtain ⟨v, hv, hl⟩ := hh k hk
  have := h.most
  exact ⟨v, (ho.cellAt k (by omega)).trans hv, hl⟩
theorem RowLi.ge {w wr : World} {n B : Nat} {l : List (List (Int))} (h : RowLi w n B wr l) : w.heap.size ≤ B := by
  obtain ⟨xs, ho, -, -⟩ := h.row
  exact owns_from ho B rfl
theorem RowLi.put {w wr : World} {n B : Nat} {l : List (List (Int))} (h : RowLi w n B wr l) {k : Nat} (hk : k = l.length) (hn : k < n) {a : Option Addr} {m c : Nat} {q : List (Int)} (hv : Li wr.heap.size wr (.slice a m c) q) :
    RowLi w n B (wr.setCell ⟨B, k, none⟩ (.slice a m c)) (l ++ [q]) := by
  subst hk
  have g := h.ge
  obtain ⟨xs, ho, hx, hh⟩ := h.row
  have hxl : l.length < xs.length := by rw [ho.1]; omega
  refine ⟨h.below.setCell (by show w.heap.size ≤ B; omega) _, by rw [List.length_append]; show l.length + 1 ≤ n; omega, _, (ho.stored l.length (.slice a m c)).1, hx.set _ _ _ _, fun j hj => ?_⟩
  rw [List.length_append] at hj
  rcases (by have : j < l.length + 1 := hj; omega : j < l.length ∨ j = l.length) with d | rfl
  · obtain ⟨z, hz, hl⟩ := hh j d
    refine ⟨z, by rw [List.getElem?_set_ne (by omega)]; exact hz, ?_⟩
    rw [List.getElem?_append_left d]
    exact hl.beside ho hx _ _
  · refine ⟨_, List.getElem?_set_self hxl, ?_⟩
    rw [List.getElem?_append_right (Nat.le_refl _), Nat.sub_self]
    exact hv.beside ho hx _ _
theorem RowLi.all {w wr : World} {n B : Nat} {l : List (List (Int))} (h : RowLi w n B wr l) (hl : l.length = n) : Ll wr.heap.size wr (.slice (some ⟨B, 0, none⟩) n n) l := by
  subst hl
  obtain ⟨xs, ho, -, hh⟩ := h.row
  have hB : B < wr.heap.size := (World.ownsRow.lt ho B rfl).2
  refine ⟨_, _, rfl, Nat.le_refl _, .inr ⟨B, 0, rfl, hB, fun j hj => ?_⟩⟩
  obtain ⟨v, hv, hl⟩ := hh j hj
  refine ⟨v, ?_, hl⟩
  rw [Nat.zero_add, ho.cellAt j (by omega)]
  exact hv

theorem li_cells {w : World} {b off : Nat} {q : List Int} (h : ∀ j, j < q.length → w.cell? ⟨b, off + j, none⟩ = some (.int .i64 (q[j]?.getD 0))) : ∀ j u, (q.map (Value.int .i64))[j]? = some u → w.cell? ((⟨b, off, none⟩ : Addr).add j) = some u := by
  intro j u hu
  have hj : j < q.length := by
    have := (List.getElem?_eq_some_iff.1 hu).1
    rwa [List.length_map] at this
  rw [Go.WideShapes.add_plain, h j hj]
  rw [List.getElem?_map, List.getElem?_eq_getElem hj] at hu
  rw [List.getElem?_eq_getElem hj]
  exact hu
theorem int_one (q : List Int) : ∀ u ∈ q.map (Value.int .i64), u.oneCell' = true := by
  intro u hu
  obtain ⟨x, -, rfl⟩ := List.mem_map.1 hu
  rfl
theorem owns_empty_int {w : World} {base b : Nat} (hb : b = w.heap.size) (h : base ≤ b) : (w.alloc (.cells #[] 3)).ownsRow base 3 1 (.slice (some ⟨b, 0, none⟩) 0 0) 0 [] := by
  subst hb
  refine ⟨rfl, .inr ⟨w.heap.size, 0, #[], rfl, h, ?_, Nat.le_refl _, by unfold maxLen; omega, rfl, rfl⟩⟩
  show (w.heap.push _)[w.heap.size]? = _
  simp

end Go.Proofs.YthgehlonjoafmaaGreatDoor
