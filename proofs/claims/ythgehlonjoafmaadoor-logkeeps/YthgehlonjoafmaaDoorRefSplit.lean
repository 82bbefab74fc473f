/-
  What the document's answer (package spanref1) to the pieces of a right span is; spansame.Box of two lists that are the same.
-/
import Derived.Test.YthgehlonjoafmaaDoorMaths
import Derived.Test.YthgehlonjoafmaaDoorMems
import Derived.Maps.AppendAt
namespace Go.Proofs.YthgehlonjoafmaaDoor
set_option linter.unusedSimpArgs false
open Go.RowKit

theorem wrap_in {x : Int} (h1 : -9223372036854775808 ≤ x) (h2 : x ≤ 9223372036854775807) : IntKind.i64.wrap x = x := by rw [IntKind.wrap_i64]; omega
theorem info_spans : (Tryd.prog.info? 28).map (fun i => (i.zero, i.size, i.bytes)) = some (some (.agg #[.int .i64 0, .int .i64 0]), 2, 16) := by kernel_rfl
theorem cell_two_new (w : World) (x y : Value) (t : TypeId) : ∀ j u, [x, y][j]? = some u → (w.alloc (.cells #[x, y] t)).cell? ((⟨w.heap.size, 0, none⟩ : Addr).add j) = some u := by
  intro j u hj
  match j, hj with
  | 0, hj => simp at hj; subst hj; simp [Addr.add]
  | 1, hj => simp at hj; subst hj; simp [Addr.add]
theorem Sp.below' {w w' : World} {b B : Nat} {lo hi : Int} (h : Sp w b lo hi) (hb : Below B w w') (hlt : b < B) : Sp w' b lo hi := by
  unfold Sp at *
  rw [hb.block b hlt]; exact h
/-- What is owned stays so behind a call of someone else's. -/
theorem owns_step {w w' : World} {base E size n : Nat} {v : Value} {xs : List Value} (h : w.ownsRow base E size v n xs) (hb : Below w.heap.size w w') : w'.ownsRow base E size v n xs := by
  refine ⟨h.1, ?_⟩
  rcases h.2 with h2 | ⟨g, cap, cur, e, hg, hh, h3⟩
  · exact .inl h2
  · exact .inr ⟨g, cap, cur, e, hg, (hb.block g (Array.getElem?_eq_some_iff.1 hh).1).trans hh, h3⟩

set_option maxHeartbeats 4000000 in
/-- Of two lists that are the same. -/
theorem box_same (q : List (Int × Int)) (u v : Value) (w : World) (hu : Ls w.heap.size w u q) (hv : Ls w.heap.size w v q) (h32 : q.length ≤ 1000) :
    Calls Tryd.prog 20 #[u, v] w fun e w' => e = .returned (.bool true) ∧ Below w.heap.size w w' := by
  by_cases h0 : q = []
  · subst h0
    obtain ⟨a1, c1, rfl, -, -⟩ := hu
    obtain ⟨a2, c2, rfl, -, -⟩ := hv
    have z : ([] : List (Int × Int)).length = 0 := rfl
    rw [z]
    go_enter Tryd.func20, Tryd.ntmps20
    go_wp2
    go_rounds 1
    go_returns
    exact ⟨rfl, Below.refl _ _⟩
  · obtain ⟨b1, o1, c1, rfl, -, l1, hc1⟩ := hu.out h0
    obtain ⟨b2, o2, c2, rfl, -, l2, hc2⟩ := hv.out h0
    have H1 := hid hc1
    have H2 := hid hc2
    clear hc1 hc2 h0 hu hv
    go_enter Tryd.func20, Tryd.ntmps20
    go_wp2
    go_loopw [5] (fun i wr => ∃ k : Nat, k ≤ q.length ∧ i = .int .i64 k ∧ Below w.heap.size w wr) (fun i _ => q.length - (intOf i).toNat)
    case atStart => exact ⟨0, Nat.zero_le _, rfl, Below.refl _ _⟩
    case round =>
      obtain ⟨k, hk, rfl, hB⟩ := hrel
      by_cases hkl : k < q.length
      · have x1 := (hB.cell (p := ⟨b1, o1 + k * 2, none⟩) l1).trans (H1.out k hkl).1
        have x2 := (hB.cell (p := ⟨b1, o1 + k * 2 + 1, none⟩) l1).trans (H1.out k hkl).2
        have x3 := (hB.cell (p := ⟨b2, o2 + k * 2, none⟩) l2).trans (H2.out k hkl).1
        have x4 := (hB.cell (p := ⟨b2, o2 + k * 2 + 1, none⟩) l2).trans (H2.out k hkl).2
        have hkk : (k : Int) < (q.length : Int) := by omega
        generalize (q[k]?.getD (0, 0)).1 = x at *
        generalize (q[k]?.getD (0, 0)).2 = y at *
        clear H1 H2
        go_wp2
        go_quiet (fail)
        go_wp2
        exact ⟨⟨k + 1, by omega, rfl, below_drewN hB _⟩, by simp [intOf]; omega⟩
      · obtain rfl : k = q.length := by omega
        clear H1 H2
        go_wp2
        go_returns
        exact ⟨rfl, hB⟩
end Go.Proofs.YthgehlonjoafmaaDoor
