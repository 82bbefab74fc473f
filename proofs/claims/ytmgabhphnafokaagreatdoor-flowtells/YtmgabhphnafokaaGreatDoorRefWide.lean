/-
  What the document's answer (package spanref1) to which side of a right box is the widest is: Widest.
-/
import Derived.Test.YtmgabhphnafokaaGreatDoorRefBoxC
namespace Go.Proofs.YtmgabhphnafokaaGreatDoor
set_option linter.unusedSimpArgs false
open Go.RowKit

set_option maxRecDepth 100000 in
set_option maxHeartbeats 4000000 in
theorem rWidest_any (q : List (Int × Int)) (v : Value) (w : World) (hs : Ls w.heap.size w v q) (h : Um.boxF q = 0) :
    Calls Tryz.prog 8 #[v] w fun e w' => e = .returned (.int .i64 (Um.wide q : Nat)) ∧ Below w.heap.size w w' := by
  have hl := Um.box_len h
  obtain ⟨b, off, cap, rfl, hcap, hA⟩ := hs.open (Um.box_ok.1 h).1
  have hF := Fr.start w
  have HW := hid (fun i (hi : i < q.length) => side_b h hi)
  clear hs h
  go_enter Tryz.func8, Tryz.ntmps8
  go_wp2
  go_loopw [3, 4] (fun u i wr => ∃ k : Nat, 1 ≤ k ∧ k ≤ q.length ∧ i = .int .i64 k ∧ u = .int .i64 (wideK q k : Nat) ∧ Fr w wr []) (fun _ i _ => q.length - (intOf i).toNat)
  case atStart => exact ⟨1, Nat.le_refl _, hl.1, rfl, rfl, hF⟩
  case round =>
    clear hF
    obtain ⟨k, hk1, hk, rfl, rfl, hF⟩ := hrel
    by_cases hkl : k < q.length
    · have hkk : (k : Int) < (q.length : Int) := by omega
      have hA' := hA.step hF.below
      have hj := wideK_le (q := q) hl.1 hk
      have z0 := hA'.lo k (Um.sd_some hkl) rfl
      have z1 := hA'.hi k (Um.sd_some hkl) rfl
      have HN := hid (wideK_next q k)
      obtain ⟨b1, b2, b3, b4, -⟩ := HW.out k hkl
      obtain ⟨c1, c2, c3, c4, -⟩ := HW.out _ hj
      have hj2 : (wideK q k : Int) < (q.length : Int) := by omega
      have z2 := hA'.lo (wideK q k) (Um.sd_some hj) rfl
      have z3 := hA'.hi (wideK q k) (Um.sd_some hj) rfl
      clear HW hA hA'
      generalize wideK q k = m at *
      generalize Um.sd q k = s at *
      generalize Um.sd q m = r at *
      obtain ⟨D0, D1⟩ := s
      obtain ⟨C0, C1⟩ := r
      simp only at *
      by_cases hc : C1 - C0 < D1 - D0
      · have HM := HN.out
        rw [if_pos hc] at HM
        replace HM := hid HM
        clear HN
        have t : decide (C1 - C0 < D1 - D0) = true := decide_eq_true hc
        clear hc
        go_wp2
        go_quiet (fail)
        go_wp2
        exact ⟨⟨k + 1, by omega, by omega, by simp, by rw [HM.out], hF.drewN _⟩, by simp [intOf]; omega⟩
      · have HM := HN.out
        rw [if_neg hc] at HM
        replace HM := hid HM
        clear HN
        have t : decide (C1 - C0 < D1 - D0) = false := decide_eq_false hc
        clear hc
        go_wp2
        go_quiet (fail)
        go_wp2
        exact ⟨⟨k + 1, by omega, by omega, by simp, by rw [HM.out], hF.drewN _⟩, by simp [intOf]; omega⟩
    · obtain rfl : k = q.length := by omega
      clear HW hA
      go_wp2
      go_returns
      exact ⟨rfl, hF.below⟩
end Go.Proofs.YtmgabhphnafokaaGreatDoor
