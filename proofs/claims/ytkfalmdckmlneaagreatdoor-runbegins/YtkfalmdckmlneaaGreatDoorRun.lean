/-
  What package run's Run answers, at every text.
-/
import Derived.Test.YtkfalmdckmlneaaGreatDoorRunY
import Derived.Lib.FrozenHead
import Derived.Lib.OthersKept
namespace Go.Proofs.YtkfalmdckmlneaaGreatDoor
set_option linter.unusedSimpArgs false
open Go.RowKit Go.Shelf
attribute [local go_sem] Oper.semAt_some

/-- A builder stays while the blocks of its kind, and of bytes, stay. -/
theorem bld_kept {T e : TypeId} {B b : Nat} {bs : List Value} {w w' : World} (h : Lib.IsBuilderF T e B b bs w) (hk : ∀ (k : Nat) (cs : Array Value) (t : TypeId) (fz : Nat × Nat), w.heap[k]? = some (Obj.cells cs t fz) → (t = T ∨ t = e) → w'.heap[k]? = some (Obj.cells cs t fz)) : Lib.IsBuilderF T e B b bs w' := by
  have key : ∀ {p : Value}, Lib.BuilderAtF T e B b p bs w → Lib.BuilderAtF T e B b p bs w' := by
    rintro p ⟨hB, v, hb, ho, hne⟩
    refine ⟨hB, v, hk _ _ _ _ hb (.inl rfl), ⟨ho.1, ?_⟩, hne⟩
    rcases ho.2 with h2 | ⟨g, cap, cur, fz, e2, hg, hh, h3⟩
    · exact .inl h2
    · exact .inr ⟨g, cap, cur, fz, e2, hg, hk _ _ _ _ hh (.inr rfl), h3⟩
  exact h.elim (fun x => .inl (key x)) (fun x => .inr (key x))
theorem bld_step {T e : TypeId} {B b : Nat} {bs : List Value} {w w' : World} (h : Lib.IsBuilderF T e B b bs w) (hb : Below w.heap.size w w') : Lib.IsBuilderF T e B b bs w' :=
  bld_kept h fun k _ _ _ hk _ => (hb.block k (Array.getElem?_eq_some_iff.1 hk).1).trans hk
theorem bld_own {T e : TypeId} {B b : Nat} {bs : List Value} {w w' : World} {row : Option Nat} (h : Lib.IsBuilderF T e B b bs w) (hg : w.grownBy w' row) (hr : ∀ r, row = some r → ∃ o : Obj, w.heap[r]? = some o ∧ o.isCells = false) : Lib.IsBuilderF T e B b bs w' :=
  bld_kept h fun k _ _ _ hk _ => (hg.block k (Array.getElem?_eq_some_iff.1 hk).1 (fun e => by obtain ⟨o, ho, hc⟩ := hr k e.symm; rw [hk] at ho; cases ho; cases hc)).trans hk
theorem bld_set {T e U : TypeId} {B b V : Nat} {bs : List Value} {w : World} {u : Value} (h : Lib.IsBuilderF T e B b bs w) (hV : Boxed w V U u) (h1 : U ≠ T) (h2 : U ≠ e) (z : Value) : Lib.IsBuilderF T e B b bs (w.setCell ⟨V, 0, none⟩ z) :=
  bld_kept h fun k _ t _ hk ht => (Below.heap_setCell _ _ _ k (fun ek => by
    rw [show k = V from ek, show w.heap[V]? = _ from hV] at hk
    cases hk
    rcases ht with rfl | rfl
    · exact h1 rfl
    · exact h2 rfl)).trans hk

/-- The answers to the lines that have come. -/
def ansOn (xs : List Str) : List UInt8 := Um.ansR (xs.map lineOf)
theorem ansOn_nil : ansOn [] = [] := rfl
theorem ansOn_snoc (xs : List Str) (x : Str) : ansOn (xs ++ [x]) = ansOn xs ++ (Um.lineR (lineOf x) ++ [10]) := by
  unfold ansOn
  rw [List.map_append, Um.ans_append]
  congr 1
theorem ansOn_length (xs : List Str) : (ansOn xs).length ≤ 1001 * xs.length := by
  have := Um.ans_length (xs.map lineOf) (xs.map lineOf).length
  rw [List.length_map] at this
  unfold ansOn Um.ansR
  rw [List.length_map]
  exact this
theorem line_small (x : Str) : (⟨(lineOf x).toArray⟩ : ByteArray).size ≤ 3000 := by
  rw [str_size]
  have h9 : x.1.data.toList.length = x.1.size := by rw [← str_size, str_back]
  have hx := x.2
  have : (lineOf x).length ≤ x.1.data.toList.length := by
    unfold lineOf Lib.trimSuffix
    split
    · rw [List.length_take]; omega
    · exact Nat.le_refl _
  omega
structure Ri2 (w W : World) (xs : List Str) : Prop where
  bld : Lib.IsBuilderF 34 5 w.heap.size w.heap.size (Lib.byteCells (ansOn xs)) W
  var : ∃ u, Boxed W (w.heap.size + 1) 9 u
  below : Below w.heap.size w W
  size : w.heap.size + 2 ≤ W.heap.size
theorem Ri2.own {w : World} {B : Nat} (hB : w.heap.size ≤ B) : OwnFrom B (fun s W => Ri2 w W s) := fun s A C row hs hg hr => by
  have hr2 := fun r e => (hr r e).2
  exact ⟨bld_own hs.bld hg hr2, hs.var.imp fun u hu => box_own hu hg hr2, ownFrom_below (β := Unit) (Nat.le_refl _) hB () A C row hs.below hg hr, Nat.le_trans hs.size hg.size⟩
theorem Ri2.set {w W : World} {xs : List Str} (h : Ri2 w W xs) (z : Value) : Ri2 w (W.setCell ⟨w.heap.size + 1, 0, none⟩ z) xs := by
  obtain ⟨u, hu⟩ := h.var
  exact ⟨bld_set h.bld hu (by decide) (by decide) z, ⟨z, hu.set z⟩, h.below.setCell (p := ⟨w.heap.size + 1, 0, none⟩) (by simp only []; omega) _, Nat.le_trans h.size (KeepsOthers.setCell _ _ _).size⟩
theorem write_any (B b : Nat) (bs : List Value) (s : ByteArray) (w : World) (h : Lib.IsBuilderF 34 5 B b bs w) (hlen : bs.length + s.size ≤ 140737488355328) (hBw : B ≤ w.heap.size) :
    Calls Tryz.prog 11 #[.pointer (some ⟨b, 0, none⟩), .string s] w fun e w' => e = .returned (.tuple #[.int .i64 s.size, .nilIface]) ∧ Lib.IsBuilderF 34 5 B b (bs ++ Lib.strCells s) w' ∧ Below B w w' ∧ Lib.OthersKept 5 (some b) w w' :=
  (Any.Builder_WriteString_k ({ Tryz.lays156 with } : Lays.n166 Tryz.prog Tryz.lays156_ren) Tryz.Builder_Extra_156 B b bs s w h hlen hBw).mono fun _ _ hh => ⟨hh.1, .inr hh.2.1, hh.2.2.1, hh.2.2.2⟩

theorem sess_long (t : ByteArray) (w : World) (h : 3000 < t.size) :
    Calls Tryz.prog 6 #[.string t] w fun e w' => e = .returned (strV Um.tooLong) ∧ w' = w := by
  have h1 : (3000 : Int) < (t.size : Int) := by omega
  go_enter Tryz.func6, Tryz.ntmps6
  go_wp2
  go_ret
  exact ⟨rfl, rfl⟩

set_option maxRecDepth 100000 in
set_option maxHeartbeats 4000000 in
theorem sess_short (t : ByteArray) (w : World) (hv : Hv w) (ht : t.size ≤ 3000) :
    Calls Tryz.prog 6 #[.string t] w fun e w' => e = .returned (strV (Um.ansR (Um.linesR t.data.toList))) ∧ Below w.heap.size w w' := by
  have hlen : (Um.linesR t.data.toList).length ≤ 3001 := by
    have h9 : t.data.toList.length = t.size := by rw [← str_size, str_back]
    have := Um.cutL_length 10 t.data.toList
    unfold Um.cutL at this
    unfold Um.linesR
    rw [List.length_append] at this ⊢
    have h2 : (if (Um.cutS 10 t.data.toList).2 = [] then ([] : List (List UInt8)) else [(Um.cutS 10 t.data.toList).2]).length ≤ 1 := by split <;> simp
    simp only [List.length_cons, List.length_nil] at this
    omega
  have nl : ¬ (3000 : Int) < (t.size : Int) := by omega
  have HV := hid hv
  have HL := hid hlen
  clear hlen hv
  refine (callsIn_wide (n := 6)).1 ?_
  refine callsIn_of_wp_marks Tryz.func6 rfl trivial ?_ rfl
  simp only [Tryz.ntmps6, List.size_toArray, List.length_cons, List.length_nil, Nat.reduceAdd, Nat.reduceSub, Array.replicate_succ, Array.replicate_zero, List.push_toArray, List.append_toArray, List.nil_append, List.cons_append]
  gi_wp2_with (refine ⟨trivial, ?_⟩; gi_at_call 10; refine (callsIn_wide.2 (lines_make _ _)).mono ?_; rintro e w2 ⟨rfl, rfl⟩)
  obtain ⟨W0, hW0⟩ : ∃ W0, ((w.alloc (.cells #[.pointer none, .slice none 0 0] 34)).alloc (.cells #[.string t] 9)) = W0 := ⟨_, rfl⟩
  have z0 : W0.heap.size = w.heap.size + 2 := by rw [← hW0]; simp
  have hB0 : Below w.heap.size w W0 := by rw [← hW0]; go_grown
  have b1 : Boxed W0 (w.heap.size + 1) 9 (.string t) := by rw [← hW0]; simpa using Boxed.new (w.alloc (.cells #[.pointer none, .slice none 0 0] 34)) 9 (.string t)
  have b0 : W0.heap[w.heap.size]? = some (Obj.cells #[.pointer none, .slice none 0 0] 34 (0, 0)) := by
    rw [← hW0]
    exact (Below.heap_alloc _ _ _ (by simp)).trans (World.alloc_heap_new w _)
  have hbl : Lib.IsBuilderF 34 5 w.heap.size w.heap.size (Lib.byteCells (ansOn [])) W0 := .inl ⟨Nat.le_refl _, .slice none 0 0, b0, ⟨rfl, .inl ⟨rfl, rfl⟩⟩, by simp [Value.ownBlock]⟩
  rw [hW0]
  clear hW0 nl
  refine Rv.range_any rfl (by omega) (f := 32) (cap := #[.pointer (some ⟨w.heap.size + 1, 0, none⟩)]) rfl trivial (enters_of Tryz.func32 (by kernel_rfl) rfl)
    (V := w.heap.size + 1) (m := 1) (by omega) (lines_owes _ (by omega) _ t ht W0 b1) (fun _ => rfl)
    (fun xs W => Ri2 w W xs) (fun _ _ => False) (Ri2.own (by omega)) (fun _ _ _ _ hs _ _ => hs) (fun pre A v h => h.set v)
    ⟨hbl, ⟨_, b1⟩, hB0, by omega⟩
    (fun x => { tmps := #[.string t, undef, .string ⟨#[]⟩, .pointer (some ⟨w.heap.size, 0, none⟩), .string x.1, .string t, .int .i64 t.size, .bool false, .string t, .func (.func 32) #[] #[.pointer (some ⟨w.heap.size + 1, 0, none⟩)], .string x.1, undef, undef, undef, undef, undef, undef], defers := [] }) ?assign ?body ?done ?stop
  case assign =>
    intro l x W K hK
    gi_wp2
    exact hK
  case body =>
    rintro l pre x W hI hlen
    have hvW := HV.out.step hI.below
    have HT : ∀ w, Hid (Calls Tryz.prog 13 #[.string x.1, .string ⟨#[10]⟩] w fun e w' => e = .returned (strV (lineOf x)) ∧ w' = w) := fun w => hid ((Tryz.strings_TrimSuffix x.1 ⟨#[10]⟩ w (by have := x.2; omega)).mono fun e w' h => ⟨h.1, h.2⟩)
    have HA := hid (answer_any ⟨(lineOf x).toArray⟩ W (line_small x) hvW)
    have e1 : (⟨(lineOf x).toArray⟩ : ByteArray).data.toList = lineOf x := by simp
    rw [e1] at HA
    have hll := Um.line_length (lineOf x)
    have hal := ansOn_length pre
    have hs1 : ((⟨(Um.lineR (lineOf x)).toArray⟩ : ByteArray) ++ ⟨#[10]⟩) = ⟨(Um.lineR (lineOf x) ++ [10]).toArray⟩ := by
      rw [show (⟨#[10]⟩ : ByteArray) = ⟨[10].toArray⟩ from rfl, str_join]
    have hsn := ansOn_snoc pre x
    have hl9 := HL.out
    have HW : ∀ W1, Below W.heap.size W W1 → Hid (Calls Tryz.prog 11 #[.pointer (some ⟨w.heap.size, 0, none⟩), .string ((⟨(Um.lineR (lineOf x)).toArray⟩ : ByteArray) ++ ⟨#[10]⟩)] W1 fun e w' => (∃ k, e = .returned (.tuple #[.int .i64 k, .nilIface])) ∧ Lib.IsBuilderF 34 5 w.heap.size w.heap.size (Lib.byteCells (ansOn (pre ++ [x]))) w' ∧ Below w.heap.size W1 w' ∧ Lib.OthersKept 5 (some w.heap.size) W1 w') := fun W1 h1 => by
      refine hid ((write_any w.heap.size w.heap.size (Lib.byteCells (ansOn pre)) _ W1 (bld_step hI.bld h1) ?_ ?_).mono fun e w' h => ⟨⟨_, h.1⟩, ?_, h.2.2.1, h.2.2.2⟩)
      · rw [hs1, str_size, Lib.byteCells_length, List.length_append]
        simp only [List.length_cons, List.length_nil]
        omega
      · have := hI.below.size; have := h1.size; omega
      · have h2 := h.2.1
        rw [hs1, Lib.strCells_eq, List.toList_toArray, ← Lib.byteCells_append, ← hsn] at h2
        exact h2
    have n1 : (Um.lineR (lineOf x)).length ≤ 1000 := hll
    clear hvW hll hal hs1 hsn hl9 e1
    generalize hR : Um.lineR (lineOf x) = A at *
    generalize lineOf x = B at *
    clear hR
    gi_wp2_with (first
      | (refine ⟨trivial, ?_⟩; gi_at_call 13; refine (CallsIn.inRound l (callsIn_wide.2 (HT _).out)).mono ?_; rintro e w1 ⟨rfl, rfl⟩)
      | (refine ⟨trivial, ?_⟩; gi_at_call 12; refine (CallsIn.inRound l (callsIn_wide.2 HA.out)).mono ?_; rintro e w1 ⟨rfl, hb1⟩)
      | (refine ⟨trivial, ?_⟩; gi_at_call 11; refine (CallsIn.inRound l (callsIn_wide.2 (HW _ hb1).out)).mono ?_; rintro e w2 ⟨⟨k, rfl⟩, hb2, hB2, hO2⟩))
    obtain ⟨u, hu⟩ := hI.var
    have hu1 := box_step hu hb1
    have hV2 : Boxed w2 (w.heap.size + 1) 9 u := hO2 _ _ hu1 (fun e => by have := Option.some.inj e; omega) (fun c fz e => by cases e)
    have s1 := hI.below.size
    refine ⟨(keeps_below hb1).trans ⟨hB2.size, fun k o hB hk ho => hO2 k o hk (fun e => by have := Option.some.inj e; omega) (fun c fz e => by rw [e] at ho; cases ho)⟩, fun k h1 h2 => ?_, ⟨hb2, ⟨u, hV2⟩, (hI.below.trans (hb1.mono s1)).trans hB2, Nat.le_trans hI.size (Nat.le_trans hb1.size hB2.size)⟩⟩
    obtain rfl : k = w.heap.size + 1 := by omega
    exact (show _ = _ from hV2).trans (show _ = _ from hu).symm
  case done =>
    rintro D xs W hD hS hI hK
    have HS : Hid (Calls Tryz.prog 14 #[.pointer (some ⟨w.heap.size, 0, none⟩)] W fun e w' => e = .returned (strV (Um.ansR (Um.linesR t.data.toList))) ∧ Below w.heap.size W w' ∧ KeepsOthers W w') := by
      refine hid ((Tryz.Builder_String_any_k w.heap.size w.heap.size (ansOn xs) W hI.bld hI.below.size).mono fun e w' h => ⟨?_, h.2.2.1, ?_⟩)
      · rw [h.1]
        unfold ansOn
        rw [hS]
      · refine ⟨h.2.2.1.size, fun k o hk ho => h.2.2.2 k o hk (fun e => ?_) (fun c fz e => by rw [e] at ho; cases ho)⟩
        have ek := Option.some.inj e
        rw [ek] at hk
        rcases hI.bld with ⟨-, v, hb, -⟩ | ⟨-, v, hb, -⟩
        · rw [hb] at hk; cases hk; cases ho
        · rw [hb] at hk; cases hk; cases ho
    have hIB := hid hI.below
    clear hS hI HV HL
    generalize hA : Um.ansR (Um.linesR t.data.toList) = A at *
    replace hA := hid hA
    gi_wp2_with (refine ⟨trivial, ?_⟩; gi_at_call 14; refine (callsIn_wide.2 HS.out).mono ?_; rintro e w3 ⟨rfl, hB3, hK3⟩)
    have hK' := hK3.same D _ hK rfl
    refine ⟨by simp, .inl ⟨_, _, rfl, run_takeDeferred hK', ?_⟩⟩
    exact ⟨_, results_tmp rfl _ _ _, by rw [hA.out]; rfl, (hIB.out.trans hB3).trans (belowK_b (w := w) (Nat.le_refl _) _ D _ _ (by omega) hK' rfl rfl)⟩
  case stop =>
    rintro D xs W hD _ hI hK
    exact hI.elim
theorem sess_any (t : ByteArray) (w : World) (hv : Hv w) (_ : t.size ≤ maxLen) :
    Calls Tryz.prog 6 #[.string t] w fun e w' => e = .returned (strV (Um.sessR t.data.toList)) ∧ Below w.heap.size w w' := by
  have h9 : t.data.toList.length = t.size := by rw [← str_size, str_back]
  unfold Um.sessR
  by_cases h : 3000 < t.size
  · rw [if_pos (by omega)]
    exact (sess_long t w h).mono fun e w' hh => ⟨hh.1, by rw [hh.2]; exact Below.refl _ _⟩
  · rw [if_neg (by omega)]
    exact sess_short t w hv (by omega)
end Go.Proofs.YtkfalmdckmlneaaGreatDoor
