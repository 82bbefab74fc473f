/-
  What the bound of an 'upto' statement gives: how many numbers a list of ints among the arguments has.
-/
import Derived.Test.YtmgabhphnafokaaRows
import Derived.Test.YtmgabhphnafokaaShutList
namespace Go.Proofs.Ytmgabhphnafokaa
set_option linter.unusedSimpArgs false
open Go.ChangeShapes Go.WideShapes Go.ChangeAt Go.RowKit

theorem bulk_pos {H : Type} (d : DataW H) : 0 < Rows.uptoBulk d := by
  rcases d with l | _ | _ | ⟨x, y⟩ | _ | _ | _ | _
  · rcases l with _ | _ | _ | _ <;> simp [Rows.uptoBulk]
  all_goals simp [Rows.uptoBulk]
theorem bulk_many {H : Type} : ∀ l : List (DataW H), l.length ≤ Rows.uptoBulkAll l
  | [] => Nat.zero_le _
  | d :: l => by
    have h1 := bulk_pos d
    have h2 := bulk_many l
    rw [Rows.uptoBulkAll, List.length_cons]
    omega
theorem bulk_said {H : Type} {l : List (DataW H)} (hk : Rows.uptoSmall H l = true) : Rows.uptoBulkAll l ≤ 1048576 := of_decide_eq_true hk
theorem bulk_mem {H : Type} {d : DataW H} : ∀ {l : List (DataW H)}, d ∈ l → Rows.uptoBulk d ≤ Rows.uptoBulkAll l
  | [], h => by cases h
  | x :: l, h => by
    rw [Rows.uptoBulkAll]
    rcases List.mem_cons.1 h with rfl | h
    · omega
    · have := bulk_mem h; omega
set_option maxRecDepth 100000 in
theorem list_le {H : Type} {enc : TypeId × Value → H} {W : World} {base B : Nat} {sp : Nat → Bool} {held : Bool} {v : Value} {d : DataW H} {ps : List MemPlace} {q : List Int}
    (hl : Li B W v q) (h : DataW.Trod enc Try.prog W base sp held 23 v d ps) : q.length ≤ Rows.uptoBulk d := by
  obtain ⟨a0, cap0, rfl, -⟩ := hl
  obtain ⟨fuel, hf⟩ := h
  rcases open_ints Try.underlying23 Try.underlying3 cellsInt hf with ⟨hcs, _⟩ | ⟨a, len', cap', zs, hcs, _, hl, _, hz, hx, _, _⟩
  · have hcs' : [Value.slice a0 q.length cap0] = [Value.slice none 0 0] := hcs
    simp only [List.cons.injEq, Value.slice.injEq, and_true] at hcs'
    omega
  · have hcs' : [Value.slice a0 q.length cap0] = [Value.slice (some a) len' cap'] := hcs
    simp only [List.cons.injEq, Value.slice.injEq, and_true] at hcs'
    obtain ⟨rfl, e, rfl⟩ := hcs'
    have hlz : len' ≤ zs.length := by rw [hz]; split <;> omega
    have hd := congrArg Prod.fst hx
    simp only at hd
    rw [hd, Rows.uptoBulk]
    have := bulk_many (lits (H := H) .i64 (zs.take len'))
    have e2 : (lits (H := H) .i64 (zs.take len')).length = len' := by
      unfold lits
      rw [List.length_map, List.length_take]; omega
    omega
end Go.Proofs.Ytmgabhphnafokaa
