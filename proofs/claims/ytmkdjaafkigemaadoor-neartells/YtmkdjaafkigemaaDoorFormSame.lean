/-
  What spansame.Form answers to two lists that hold the same terms.
-/
import Derived.Test.YtmkdjaafkigemaaDoorMems2
import Derived.Test.YtmkdjaafkigemaaDoorMems
import Derived.Deep.CutRange
namespace Go.Proofs.YtmkdjaafkigemaaDoor
set_option linter.unusedSimpArgs false
open Go.RowKit
open Go.Instr

theorem termG (a b c d : Int) (i j : Nat) (w : World) : (eqGuard BinOp.neq 49 (.tmp i) (.tmp j) (.agg #[.int .i64 a, .int .i64 b, .int .i64 c, .int .i64 d]) (.agg #[.int .i64 a, .int .i64 b, .int .i64 c, .int .i64 d])).run Tryd.prog w = .ok () w := by
  simp [go_sem]
theorem arrE (b c d : Int) (w : World) : (Op.equalIn 9999 47 (.agg #[.int .i64 b, .int .i64 c, .int .i64 d]) (.agg #[.int .i64 b, .int .i64 c, .int .i64 d])).run Tryd.prog w = .ok true w := by
  show (Op.equalIn (9998 + 1) 47 _ _).run Tryd.prog w = _
  unfold Op.equalIn
  simp [go_sem, show List.range' 0 3 = [0, 1, 2] from rfl]
theorem termN (a b c d : Int) (w : World) : (binOp .neq 49 (.agg #[.int .i64 a, .int .i64 b, .int .i64 c, .int .i64 d]) (.agg #[.int .i64 a, .int .i64 b, .int .i64 c, .int .i64 d])).run Tryd.prog w = .ok (.bool false) w := by
  simp [go_sem, arrE]

set_option maxRecDepth 100000 in
set_option maxHeartbeats 4000000 in
theorem form_same (q : List Um.Tm) (u v : Value) (w : World) (hu : Lt w.heap.size w u q) (hv : Lt w.heap.size w v q) (h32 : q.length ≤ 1000) :
    Calls Tryd.prog 8 #[u, v] w fun e w' => e = .returned (.bool true) ∧ Below w.heap.size w w' := by
  by_cases h0 : q = []
  · subst h0
    obtain ⟨a1, c1, rfl, -, -⟩ := hu
    obtain ⟨a2, c2, rfl, -, -⟩ := hv
    have z : ([] : List Um.Tm).length = 0 := rfl
    rw [z]
    go_enter Tryd.func8, Tryd.ntmps8
    go_wp2
    refine wp_loop_rounds 1 ?_
    rw [rounds_succ]
    go_wp2
    go_returns
    exact ⟨rfl, Below.refl _ _⟩
  · obtain ⟨b1, o1, c1, rfl, -, hA⟩ := hu.open h0
    obtain ⟨b2, o2, c2, rfl, -, hB⟩ := hv.open h0
    clear h0 hu hv
    go_enter Tryd.func8, Tryd.ntmps8
    go_wp2
    go_loopw [5] (fun i wr => ∃ k : Nat, k ≤ q.length ∧ i = .int .i64 k ∧ Below w.heap.size w wr) (fun i _ => q.length - (intOf i).toNat)
    case atStart => exact ⟨0, Nat.zero_le _, rfl, Below.refl _ _⟩
    case round =>
      obtain ⟨k, hk, rfl, hW⟩ := hrel
      by_cases hkl : k < q.length
      · obtain ⟨x0, x1, x2, x3⟩ := (hA.step hW).2 k hkl
        obtain ⟨y0, y1, y2, y3⟩ := (hB.step hW).2 k hkl
        have hkk : (k : Int) < (q.length : Int) := by omega
        clear hA hB
        generalize Um.tm q k = t at *
        obtain ⟨t0, t1, t2, t3⟩ := t
        simp only at x0 x1 x2 x3 y0 y1 y2 y3
        have g1 := termG t0 t1 t2 t3
        have g2 := termN t0 t1 t2 t3
        go_wp2
        go_quiet (fail)
        go_wp2
        exact ⟨⟨k + 1, by omega, rfl, below_drewN hW _⟩, by simp [intOf]; omega⟩
      · obtain rfl : k = q.length := by omega
        clear hA hB
        go_wp2
        go_returns
        exact ⟨rfl, hW⟩
end Go.Proofs.YtmkdjaafkigemaaDoor
