/-
  What the document's answer (package spanref1) to boxes is: Box, Boxes at every argument.
-/
import Derived.Test.YthgehlonjoafmaaDoorRefOne
import Derived.Test.YthgehlonjoafmaaDoorBoxC
import Derived.Test.YthgehlonjoafmaaDoorMems
namespace Go.Proofs.YthgehlonjoafmaaDoor
set_option linter.unusedSimpArgs false
open Go.RowKit

set_option maxHeartbeats 4000000 in
theorem rBox_some (q : List (Int × Int)) (v : Value) (w : World) (hs : Ls w.heap.size w v q) (h0 : q ≠ []) (h3 : q.length ≤ 3) :
    Calls Tryd.prog 17 #[v] w fun e w' => e = .returned (.int .i64 (Um.sidesF q)) ∧ Below w.heap.size w w' := by
  obtain ⟨b, off, cap, rfl, hcap, hA⟩ := hs.open h0
  have z : ((q.length : Int) == 0) = false := by simpa using h0
  have z2 : decide (3 < (q.length : Int)) = false := by simp; omega
  have hF := Fr.start w
  clear hs h0
  go_enter Tryd.func17, Tryd.ntmps17
  go_wp2
  go_loopw [3] (fun i wr => ∃ k : Nat, k ≤ q.length ∧ i = .int .i64 k ∧ Fr w wr [] ∧ Hid (∀ j, j < k → Um.chk (Um.sd q j).1 (Um.sd q j).2 = 0)) (fun i _ => q.length - (intOf i).toNat)
  case atStart => exact ⟨0, Nat.zero_le _, rfl, hF, fun j hj => absurd hj (Nat.not_lt_zero _)⟩
  case round =>
    clear hF
    obtain ⟨k, hk, rfl, hF, hall⟩ := hrel
    by_cases hkl : k < q.length
    · have hkk : (k : Int) < (q.length : Int) := by omega
      have z0 := (hA.step hF.below).lo k (Um.sd_some hkl) rfl
      have z1 := (hA.step hF.below).hi k (Um.sd_some hkl) rfl
      have HX := fun h => hid (Um.sides_first hkl hall.out h)
      have HN : Hid (Um.chk (Um.sd q k).1 (Um.sd q k).2 = 0 → ∀ j, j < k + 1 → Um.chk (Um.sd q j).1 (Um.sd q j).2 = 0) := by
        intro h j hj
        rcases (by omega : j < k ∨ j = k) with h2 | rfl
        · exact hall.out j h2
        · exact h
      clear hall hA
      generalize Um.sd q k = s at *
      obtain ⟨D0, D1⟩ := s
      simp only at z0 z1 HX
      have HC := fun w => hid (rSpan_any D0 D1 w)
      by_cases hc : Um.chk D0 D1 = 0
      · have kc : (Um.chk D0 D1 != 0) = false := by simpa using hc
        have HM := hid (HN.out hc)
        clear HX HN hc
        generalize Um.chk D0 D1 = G at *
        go_wp2_with (go_at_call 30; refine (HC _).out.mono ?_; rintro e wn ⟨rfl, rfl⟩; replace hF := (hF.alloc (.cells #[.int .i64 D0, .int .i64 D1] 28)).alloc (.cells #[.int .i64 D0, .int .i64 D1] 28))
        exact ⟨⟨k + 1, by omega, by simp, hF, HM.out⟩, by simp [intOf]; omega⟩
      · have kc : (Um.chk D0 D1 != 0) = true := by simpa using hc
        have HM := HX hc
        clear HX HN hc
        generalize Um.chk D0 D1 = G at *
        go_wp2_with (go_at_call 30; refine (HC _).out.mono ?_; rintro e wn ⟨rfl, rfl⟩; replace hF := (hF.alloc (.cells #[.int .i64 D0, .int .i64 D1] 28)).alloc (.cells #[.int .i64 D0, .int .i64 D1] 28))
        go_returns
        rw [HM.out]
        exact ⟨rfl, hF.below⟩
    · obtain rfl : k = q.length := by omega
      have HM : Hid (Um.sidesF q = 0) := Um.sides_ok.2 fun s hs => by
        obtain ⟨j, hj, rfl⟩ := List.getElem_of_mem hs
        have := hall.out j hj
        unfold Um.sd at this
        rw [List.getElem?_eq_getElem hj] at this
        exact this
      clear hall hA
      go_wp2
      go_returns
      rw [HM.out]
      exact ⟨rfl, hF.below⟩

set_option maxHeartbeats 1000000 in
theorem rBox_any (q : List (Int × Int)) (v : Value) (w : World) (hs : Ls w.heap.size w v q) :
    Calls Tryd.prog 17 #[v] w fun e w' => e = .returned (.int .i64 (Um.boxF q)) ∧ Below w.heap.size w w' := by
  by_cases h0 : q = []
  · subst h0
    obtain ⟨a, cap, rfl, -⟩ := hs
    have z : (([] : List (Int × Int)).length) = 0 := rfl
    rw [z, show Um.boxF [] = 5 from rfl]
    go_enter Tryd.func17, Tryd.ntmps17
    go_wp2
    go_returns
    exact ⟨rfl, Below.refl _ _⟩
  · by_cases h3 : 3 < q.length
    · obtain ⟨a, cap, rfl, -⟩ := hs
      have z : ((q.length : Int) == 0) = false := by simpa using h0
      have z2 : decide (3 < (q.length : Int)) = true := by simp; omega
      have e : Um.boxF q = 4 := by unfold Um.boxF; rw [if_neg h0, if_pos h3]
      rw [e]
      clear h0 h3 e
      go_enter Tryd.func17, Tryd.ntmps17
      go_wp2
      go_returns
      exact ⟨rfl, Below.refl _ _⟩
    · have e : Um.boxF q = Um.sidesF q := by unfold Um.boxF; rw [if_neg h0, if_neg h3]
      rw [e]
      exact rBox_some q v w hs h0 (by omega)

end Go.Proofs.YthgehlonjoafmaaDoor
