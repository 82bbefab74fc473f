/-
  A list of ints of a call's own, as append makes it; spansame.Ints of two that are the same.
-/
import Derived.Test.YtmgabhphnafokaaGreatDoorMems
import Derived.OwnWalk
import Derived.Maps.AppendAt
import Derived.LoopTactic
namespace Go.Proofs.YtmgabhphnafokaaGreatDoor
set_option linter.unusedSimpArgs false
open Go.RowKit

theorem info_int : (Tryz.prog.info? 3).map (fun i => (i.zero, i.size, i.bytes)) = some (some (.int .i64 0), 1, 8) := by kernel_rfl
theorem li_owns {w : World} {base E : Nat} {v : Value} {q : List Int} (h : w.ownsRow base E 1 v q.length (q.map (Value.int .i64))) : Li w.heap.size w v q := by
  rcases h.2 with ⟨rfl, h0⟩ | ⟨g, cap, cur, rfl, _, hg, hle, _, hsz, hcur⟩
  · have : q = [] := List.length_eq_zero_iff.1 h0
    subst this; exact Li.nil _ _
  · refine Li.new hg fun j hj => ?_
    have e := congrArg (fun l : List Value => l[j]?) hcur
    simp only [Nat.mul_one] at e
    rw [List.getElem?_take_of_lt hj, List.getElem?_map, List.getElem?_eq_getElem hj] at e
    rw [← Array.getElem?_toList, e, List.getElem?_eq_getElem hj]
    rfl

theorem own_from {w : World} {base E size n : Nat} {v : Value} {xs : List Value} (h : w.ownsRow base E size v n xs) : ∀ j, v.ownBlock = some j → base ≤ j := by
  rcases h.2 with ⟨rfl, _⟩ | ⟨g, cap, cur, rfl, hg, _⟩
  · intro j e; cases e
  · intro j e
    have : g = j := by simpa [Value.ownBlock] using e
    omega

set_option maxHeartbeats 2000000 in
/-- Of two lists that are the same. -/
theorem rInts_all (q : List Int) (u v : Value) (w : World) (hu : Li w.heap.size w u q) (hv : Li w.heap.size w v q) (h5 : q.length ≤ 1000) :
    Calls Tryz.prog 10 #[u, v] w fun e w' => e = .returned (.bool true) ∧ Below w.heap.size w w' := by
  obtain ⟨a1, c1, rfl, ha⟩ := hu
  obtain ⟨a2, c2, rfl, hb⟩ := hv
  by_cases h0 : q = []
  · subst h0
    have z : ([] : List Int).length = 0 := rfl
    rw [z]
    clear ha hb
    go_enter Tryz.func10, Tryz.ntmps10
    go_wp2
    go_rounds 1
    go_returns
    exact ⟨rfl, Below.refl _ _⟩
  · obtain ⟨b1, o1, rfl, l1, hc1⟩ := ha.resolve_left h0
    obtain ⟨b2, o2, rfl, l2, hc2⟩ := hb.resolve_left h0
    have H1 := hid hc1
    have H2 := hid hc2
    clear hc1 hc2 ha hb h0
    go_enter Tryz.func10, Tryz.ntmps10
    go_wp2
    go_loopw [5] (fun i wr => ∃ k : Nat, k ≤ q.length ∧ i = .int .i64 k ∧ Below w.heap.size w wr) (fun i _ => q.length - (intOf i).toNat)
    case atStart => exact ⟨0, Nat.zero_le _, rfl, Below.refl _ _⟩
    case round =>
      obtain ⟨k, hk, rfl, hB⟩ := hrel
      by_cases hkl : k < q.length
      · have x1 := (hB.cell (p := ⟨b1, o1 + k, none⟩) l1).trans (H1.out k hkl)
        have x2 := (hB.cell (p := ⟨b2, o2 + k, none⟩) l2).trans (H2.out k hkl)
        have hkk : (k : Int) < (q.length : Int) := by omega
        generalize q[k]?.getD 0 = x at *
        clear H1 H2
        go_wp2
        go_quiet (fail)
        go_wp2
        exact ⟨⟨k + 1, by omega, rfl, below_drewN hB _⟩, by simp [intOf]; omega⟩
      · obtain rfl : k = q.length := by omega
        clear H1 H2
        go_wp2
        go_returns
        exact ⟨rfl, hB⟩
theorem rInts_same (q : List Int) (u v : Value) (w : World) (hu : Li w.heap.size w u q) (hv : Li w.heap.size w v q) (h5 : q.length ≤ 5) :
    Calls Tryz.prog 10 #[u, v] w fun e w' => e = .returned (.bool true) ∧ Below w.heap.size w w' := rInts_all q u v w hu hv (by omega)
end Go.Proofs.YtmgabhphnafokaaGreatDoor
