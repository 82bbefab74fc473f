/-
  What the document's answer (package spanref1) to boxes that are right is: Has, Within, HullBox, MeetBox, Widest, Halve.
-/
import Derived.Test.YtmkdjaafkigemaaDoorRefBoxC
import Derived.Test.YtmkdjaafkigemaaDoorRefWide
import Derived.Test.YtmkdjaafkigemaaDoorRefPow
import Derived.Test.YtmkdjaafkigemaaDoorRefSplit
import Derived.Test.YtmkdjaafkigemaaDoorBoxV
import Derived.Test.YtmkdjaafkigemaaDoorBoxM
namespace Go.Proofs.YtmkdjaafkigemaaDoor
set_option linter.unusedSimpArgs false
open Go.RowKit

set_option maxRecDepth 100000 in
set_option maxHeartbeats 4000000 in
theorem rWithin_any (a : List (Int × Int)) (v : Value) (q : List (Int × Int)) (u : Value) (w : World) (hs : Ls w.heap.size w v a) (hs2 : Ls w.heap.size w u q) (h : Um.boxesF a q = 0) :
    Calls Tryd.prog 12 #[v, u] w fun e w' => e = .returned (.bool (Um.withinB a q)) ∧ Below w.heap.size w w' := by
  obtain ⟨ha, hq, hlen⟩ := Um.boxes_ok.1 h
  have HL := hid hlen
  have hln := Um.box_len ha
  obtain ⟨b, off, cap, rfl, hcap, hA⟩ := hs.open (Um.box_ok.1 ha).1
  obtain ⟨b2, off2, cap2, rfl, hcap2, hQ⟩ := hs2.open (Um.box_ok.1 hq).1
  clear hs hs2 h ha hq hlen
  have hF := Fr.start w
  go_enter Tryd.func12, Tryd.ntmps12
  go_wp2
  go_loopw [5] (fun i wr => ∃ k : Nat, k ≤ a.length ∧ i = .int .i64 k ∧ Fr w wr [] ∧ Hid (∀ j, j < k → (Um.sd q j).1 ≤ (Um.sd a j).1 ∧ (Um.sd a j).2 ≤ (Um.sd q j).2)) (fun i _ => a.length - (intOf i).toNat)
  case atStart => exact ⟨0, Nat.zero_le _, rfl, hF, fun j hj => absurd hj (Nat.not_lt_zero _)⟩
  case round =>
    clear hF
    obtain ⟨k, hk, rfl, hF, hall⟩ := hrel
    by_cases hkl : k < a.length
    · have hkk : (k : Int) < (a.length : Int) := by omega
      have hk2 : (k : Int) < (q.length : Int) := by have := HL.out; omega
      have z0 := (hA.step hF.below).lo k (Um.sd_some hkl) rfl
      have z1 := (hA.step hF.below).hi k (Um.sd_some hkl) rfl
      have z2 := (hQ.step hF.below).lo k (Um.sd_some (show k < q.length by have := HL.out; omega)) rfl
      have z3 := (hQ.step hF.below).hi k (Um.sd_some (show k < q.length by have := HL.out; omega)) rfl
      have HY : Hid ((Um.sd q k).1 ≤ (Um.sd a k).1 ∧ (Um.sd a k).2 ≤ (Um.sd q k).2 → ∀ j, j < k + 1 → (Um.sd q j).1 ≤ (Um.sd a j).1 ∧ (Um.sd a j).2 ≤ (Um.sd q j).2) := by
        intro h j hj
        rcases (by omega : j < k ∨ j = k) with h2 | rfl
        · exact hall.out j h2
        · exact h
      have HZ : Hid (¬ ((Um.sd q k).1 ≤ (Um.sd a k).1 ∧ (Um.sd a k).2 ≤ (Um.sd q k).2) → Um.withinB a q = false) := fun h => decide_eq_false fun g => h (g k hkl)
      clear hall
      clear hA hQ
      generalize Um.sd a k = s at *
      generalize Um.sd q k = m at *
      obtain ⟨D0, D1⟩ := s
      obtain ⟨C0, C1⟩ := m
      simp only at z0 z1 z2 z3
      by_cases t1 : D0 < C0
      · have HM := hid (HZ.out (by simp only; omega))
        have d1 : decide (D0 < C0) = true := decide_eq_true t1
        clear HY HZ t1
        go_wp2
        go_quiet (fail)
        go_wp2
        go_returns
        rw [HM.out]
        exact ⟨rfl, (hF.drewN _).below⟩
      · have d1 : decide (D0 < C0) = false := decide_eq_false t1
        by_cases t2 : C1 < D1
        · have HM := hid (HZ.out (by simp only; omega))
          have d2 : decide (C1 < D1) = true := decide_eq_true t2
          clear HY HZ t1 t2
          go_wp2
          go_quiet (fail)
          go_wp2
          go_returns
          rw [HM.out]
          exact ⟨rfl, (hF.drewN _).below⟩
        · have HM := hid (HY.out (by simp only; omega))
          have d2 : decide (C1 < D1) = false := decide_eq_false t2
          clear HY HZ t1 t2
          go_wp2
          go_quiet (fail)
          go_wp2
          exact ⟨⟨k + 1, by omega, by simp, hF.drewN _, HM.out⟩, by simp [intOf]; omega⟩
    · obtain rfl : k = a.length := by omega
      have HM : Hid (Um.withinB a q = true) := decide_eq_true hall.out
      clear hall
      go_wp2
      go_returns
      rw [HM.out]
      exact ⟨rfl, hF.below⟩

end Go.Proofs.YtmkdjaafkigemaaDoor
