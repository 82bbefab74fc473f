/-
  A list of texts in memory: what is read of it, what it is behind a call, of a row of one's own.
-/
import Derived.Test.YtkfalmdckmlneaaGreatDoorMems
import Derived.Test.YtkfalmdckmlneaaGreatDoorTexts
import Derived.OwnWalk
import Derived.Laws.OwnMore
import Derived.Lib.IndexBytes
namespace Go.Proofs.YtkfalmdckmlneaaGreatDoor
set_option linter.unusedSimpArgs false
open Go.RowKit

/-- A text as a value. -/
abbrev strV (l : List UInt8) : Value := .string ⟨l.toArray⟩
/-- The slice value v holds these texts, in a block below B. -/
def Lx (B : Nat) (w : World) (v : Value) (l : List (List UInt8)) : Prop :=
  ∃ a cap, v = .slice a l.length cap ∧ l.length ≤ cap ∧ (l = [] ∨ ∃ b off, a = some ⟨b, off, none⟩ ∧ b < B ∧ ∀ j, j < l.length → w.cell? ⟨b, off + j, none⟩ = some (strV (l[j]?.getD [])))
theorem Lx.keep {B : Nat} {w w' : World} {v : Value} {l : List (List UInt8)} (h : Lx B w v l) (hb : Below B w w') : Lx B w' v l := by
  obtain ⟨a, cap, e, hc, h2⟩ := h
  refine ⟨a, cap, e, hc, h2.imp id ?_⟩
  rintro ⟨b, off, e2, hlt, hh⟩
  exact ⟨b, off, e2, hlt, fun j hj => (hb.cell (p := ⟨b, off + j, none⟩) hlt).trans (hh j hj)⟩
theorem Lx.wide {B B' : Nat} {w : World} {v : Value} {l : List (List UInt8)} (h : Lx B w v l) (hb : B ≤ B') : Lx B' w v l := by
  obtain ⟨a, cap, e, hc, h2⟩ := h
  refine ⟨a, cap, e, hc, h2.imp id ?_⟩
  rintro ⟨b, off, e2, hlt, hh⟩
  exact ⟨b, off, e2, by omega, hh⟩
theorem Lx.step {w w' : World} {v : Value} {l : List (List UInt8)} (h : Lx w.heap.size w v l) (hb : Below w.heap.size w w') : Lx w'.heap.size w' v l := (h.keep hb).wide hb.size
theorem Lx.open {w : World} {v : Value} {l : List (List UInt8)} (h : Lx w.heap.size w v l) (h0 : l ≠ []) :
    ∃ b off cap, v = .slice (some ⟨b, off, none⟩) l.length cap ∧ l.length ≤ cap ∧ b < w.heap.size ∧ ∀ j, j < l.length → w.cell? ⟨b, off + j, none⟩ = some (strV (l[j]?.getD [])) := by
  obtain ⟨a, cap, e, hc, h2⟩ := h
  rcases h2 with h2 | ⟨b, off, rfl, hlt, hh⟩
  · exact absurd h2 h0
  · exact ⟨b, off, cap, e, hc, hlt, hh⟩
/-- The cells of texts. -/
abbrev strsV (l : List (List UInt8)) : List Value := l.map strV
theorem lx_owns {w : World} {base E : Nat} {v : Value} {l : List (List UInt8)} (h : w.ownsRow base E 1 v l.length (strsV l)) : Lx w.heap.size w v l := by
  rcases h.2 with ⟨rfl, h0⟩ | ⟨g, cap, cur, rfl, _, hg, hle, _, hsz, hcur⟩
  · have : l = [] := List.length_eq_zero_iff.1 h0
    subst this; exact ⟨none, 0, rfl, Nat.le_refl _, .inl rfl⟩
  · refine ⟨_, _, rfl, hle, .inr ⟨g, 0, rfl, (Array.getElem?_eq_some_iff.1 hg).1, fun j hj => ?_⟩⟩
    have key : w.cell? ⟨g, 0 + j, none⟩ = (strsV l)[j]? := by
      rw [← hcur, List.getElem?_take_of_lt (by omega), Array.getElem?_toList]
      simp [World.cell?, hg]
    rw [key, List.getElem?_map, List.getElem?_eq_getElem hj]; rfl
theorem info_text : (Tryz.prog.info? 9).map (fun i => (i.zero, i.size, i.bytes)) = some (some (.string ⟨#[]⟩), 1, 16) := by kernel_rfl
/-- A text is as long as its list; a piece of it. -/
theorem str_size (l : List UInt8) : (⟨l.toArray⟩ : ByteArray).size = l.length := by simp [ByteArray.size]
theorem str_back (s : ByteArray) : (⟨s.data.toList.toArray⟩ : ByteArray) = s := by cases s; simp
theorem str_ext {a b : ByteArray} (h : a.data.toList = b.data.toList) : a = b := by
  cases a; cases b
  simp only [ByteArray.mk.injEq]
  exact Array.toList_inj.1 h
theorem str_piece (s : ByteArray) (a b : Nat) : s.extract a b = ⟨((s.data.toList.take b).drop a).toArray⟩ := by
  apply str_ext
  simp [ByteArray.data_extract, Array.toList_extract, List.extract_eq_drop_take']
theorem str_join (a b : List UInt8) : ((⟨a.toArray⟩ : ByteArray) ++ ⟨b.toArray⟩) = ⟨(a ++ b).toArray⟩ := by
  apply str_ext
  simp
theorem str_take (s : ByteArray) (k : Nat) (h : k < s.size) : s.data.toList.take (k + 1) = s.data.toList.take k ++ [s[k]] := by
  have h2 : k < s.data.toList.length := by simpa using h
  rw [List.take_add_one, List.getElem?_eq_getElem h2]
  rfl
theorem str_all (s : ByteArray) : s.data.toList.take s.size = s.data.toList := List.take_of_length_le (by simp)
theorem byte_eq (c d : UInt8) : ((c.toNat : Int) == (d.toNat : Int)) = decide (c = d) := by
  by_cases h : c = d
  · subst h; simp
  · rw [decide_eq_false h, beq_eq_false_iff_ne]
    intro e
    exact h (UInt8.toNat_inj.1 (by omega))
end Go.Proofs.YtkfalmdckmlneaaGreatDoor
