/-
  What package span answers: CheckAll, of as many spans as one likes.
-/
import Derived.Test.YthgehlonjoafmaaDoorSpan
import Derived.Test.YthgehlonjoafmaaDoorMems
import Derived.Test.YthgehlonjoafmaaDoorMaths2
namespace Go.Proofs.YthgehlonjoafmaaDoor
set_option linter.unusedSimpArgs false
open Go.RowKit

set_option maxHeartbeats 4000000 in
theorem checkAll_some (q : List (Int × Int)) (v : Value) (w : World) (hs : Ls w.heap.size w v q) (h0 : q ≠ []) (h3 : q.length ≤ 3) :
    Calls Tryd.prog 28 #[v] w fun e w' => e = .returned (errV (Um.sidesF q)) ∧ Below w.heap.size w w' := by
  have v0 := errV_none
  have q1 := errG
  have q2 := errGn
  have q3 := errE
  have q4 := errN
  obtain ⟨b, off, cap, rfl, hcap, hA⟩ := hs.open h0
  have hF := Fr.start w
  clear hs h0
  go_enter Tryd.func28, Tryd.ntmps28
  go_wp2
  go_loopw [8] (fun i wr => ∃ k : Nat, k ≤ q.length ∧ i = .int .i64 k ∧ Fr w wr [] ∧ Hid (∀ j, j < k → Um.chk (Um.sd q j).1 (Um.sd q j).2 = 0)) (fun i _ => q.length - (intOf i).toNat)
  case atStart => exact ⟨0, Nat.zero_le _, rfl, hF, fun j hj => absurd hj (Nat.not_lt_zero _)⟩
  case round =>
    clear hF
    obtain ⟨k, hk, rfl, hF, hall⟩ := hrel
    by_cases hkl : k < q.length
    · have hkk : (k : Int) < (q.length : Int) := by omega
      have z0 := (hA.step hF.below).lo k (Um.sd_some hkl) rfl
      have z1 := (hA.step hF.below).hi k (Um.sd_some hkl) rfl
      have HX := fun h => hid (Um.sides_first hkl hall.out h)
      have HN : Hid (Um.chk (Um.sd q k).1 (Um.sd q k).2 = 0 → ∀ j, j < k + 1 → Um.chk (Um.sd q j).1 (Um.sd q j).2 = 0) := by
        intro h j hj
        rcases (by omega : j < k ∨ j = k) with h2 | rfl
        · exact hall.out j h2
        · exact h
      clear hall hA
      generalize Um.sd q k = s at *
      obtain ⟨D0, D1⟩ := s
      simp only at z0 z1 HX
      have HC := fun w => hid (check_any D0 D1 w)
      replace hF := hF.push D0 D1 rfl
      have x0l := (hF.at 0 rfl).lo
      have x0h := (hF.at 0 rfl).hi
      by_cases hc : Um.chk D0 D1 = 0
      · have kc : (Um.chk D0 D1 != 0) = false := by simpa using hc
        have HM := hid (HN.out hc)
        clear HX HN hc
        generalize Um.chk D0 D1 = G at *
        go_wp2_with (go_at_call 37; refine (HC _).out.mono ?_; rintro e wn ⟨rfl, rfl⟩; replace hF := hF.alloc (.cells #[.int .i64 D0, .int .i64 D1] 28))
        exact ⟨⟨k + 1, by omega, by simp, hF.drop, HM.out⟩, by simp [intOf]; omega⟩
      · have kc : (Um.chk D0 D1 != 0) = true := by simpa using hc
        have HM := HX hc
        clear HX HN hc
        generalize Um.chk D0 D1 = G at *
        go_wp2_with (go_at_call 37; refine (HC _).out.mono ?_; rintro e wn ⟨rfl, rfl⟩; replace hF := hF.alloc (.cells #[.int .i64 D0, .int .i64 D1] 28))
        go_returns
        rw [HM.out]
        exact ⟨rfl, hF.below⟩
    · obtain rfl : k = q.length := by omega
      have HM : Hid (Um.sidesF q = 0) := Um.sides_ok.2 fun s hs => by
        obtain ⟨j, hj, rfl⟩ := List.getElem_of_mem hs
        have := hall.out j hj
        unfold Um.sd at this
        rw [List.getElem?_eq_getElem hj] at this
        exact this
      clear hall hA
      go_wp2
      go_returns
      rw [HM.out, errV_none]
      exact ⟨rfl, hF.below⟩
end Go.Proofs.YthgehlonjoafmaaDoor
