/-
  What the document's answer (package spanref1) to the pieces of a right span is; spansame.Box of two lists that are the same.
-/
import Derived.Test.YtmkdjaafkigemaaDoorMaths
import Derived.Test.YtmkdjaafkigemaaDoorMems
import Derived.Maps.AppendAt
namespace Go.Proofs.YtmkdjaafkigemaaDoor
set_option linter.unusedSimpArgs false
open Go.RowKit

theorem wrap_in {x : Int} (h1 : -9223372036854775808 ≤ x) (h2 : x ≤ 9223372036854775807) : IntKind.i64.wrap x = x := by rw [IntKind.wrap_i64]; omega
theorem info_spans : (Tryd.prog.info? 55).map (fun i => (i.zero, i.size, i.bytes)) = some (some (.agg #[.int .i64 0, .int .i64 0]), 2, 16) := by kernel_rfl
theorem cell_two_new (w : World) (x y : Value) (t : TypeId) : ∀ j u, [x, y][j]? = some u → (w.alloc (.cells #[x, y] t)).cell? ((⟨w.heap.size, 0, none⟩ : Addr).add j) = some u := by
  intro j u hj
  match j, hj with
  | 0, hj => simp at hj; subst hj; simp [Addr.add]
  | 1, hj => simp at hj; subst hj; simp [Addr.add]
theorem Sp.below' {w w' : World} {b B : Nat} {lo hi : Int} (h : Sp w b lo hi) (hb : Below B w w') (hlt : b < B) : Sp w' b lo hi := by
  unfold Sp at *
  rw [hb.block b hlt]; exact h
/-- What is owned stays so behind a call of someone else's. -/
theorem owns_step {w w' : World} {base E size n : Nat} {v : Value} {xs : List Value} (h : w.ownsRow base E size v n xs) (hb : Below w.heap.size w w') : w'.ownsRow base E size v n xs := by
  refine ⟨h.1, ?_⟩
  rcases h.2 with h2 | ⟨g, cap, cur, e, hg, hh, h3⟩
  · exact .inl h2
  · exact .inr ⟨g, cap, cur, e, hg, (hb.block g (Array.getElem?_eq_some_iff.1 hh).1).trans hh, h3⟩

end Go.Proofs.YtmkdjaafkigemaaDoor
