/-
  What the document's answer (package spanref1) to small polynomials is: Small, Exact, Value.
-/
import Derived.Test.YthoiiffdigkodaaDoorRef
import Derived.Test.YthoiiffdigkodaaDoorMems
import Derived.Test.YthoiiffdigkodaaDoorMaths
import Derived.LoopTactic
namespace Go.Proofs.YthoiiffdigkodaaDoor
set_option linter.unusedSimpArgs false
open Go.RowKit

set_option maxHeartbeats 1000000 in
theorem rSmall_any (p : List Int) (v : Value) (n : Int) (w : World) (hl : Li w.heap.size w v p) :
    Calls Tryd.prog 14 #[v, .int .i64 n] w fun e w' => e = .returned (.bool (Um.small p n)) ∧ w' = w := by
  by_cases h0 : p.length < 1
  · have HR := hid (Um.small_no (p := p) (n := n) (by omega))
    obtain ⟨a, cap, rfl, -⟩ := hl
    have t1 : decide ((p.length : Int) < 1) = true := by simp; omega
    clear h0
    go_enter Tryd.func14, Tryd.ntmps14
    go_wp2
    go_returns
    rw [HR.out]; exact ⟨rfl, rfl⟩
  have t1 : decide ((p.length : Int) < 1) = false := by simp; omega
  by_cases h5 : 5 < p.length
  · have HR := hid (Um.small_no (p := p) (n := n) (by omega))
    obtain ⟨a, cap, rfl, -⟩ := hl
    have t2 : decide (5 < (p.length : Int)) = true := by simp; omega
    clear h0 h5
    go_enter Tryd.func14, Tryd.ntmps14
    go_wp2
    go_returns
    rw [HR.out]; exact ⟨rfl, rfl⟩
  have t2 : decide (5 < (p.length : Int)) = false := by simp; omega
  by_cases hn1 : n < -5000
  · have HR := hid (Um.small_no (p := p) (n := n) (by omega))
    obtain ⟨a, cap, rfl, -⟩ := hl
    have t3 : decide (n < -5000) = true := by simpa using hn1
    clear h0 h5 hn1
    go_enter Tryd.func14, Tryd.ntmps14
    go_wp2
    go_returns
    rw [HR.out]; exact ⟨rfl, rfl⟩
  have t3 : decide (n < -5000) = false := by simpa using hn1
  by_cases hn2 : 5000 < n
  · have HR := hid (Um.small_no (p := p) (n := n) (by omega))
    obtain ⟨a, cap, rfl, -⟩ := hl
    have t4 : decide (5000 < n) = true := by simpa using hn2
    clear h0 h5 hn1 hn2
    go_enter Tryd.func14, Tryd.ntmps14
    go_wp2
    go_returns
    rw [HR.out]; exact ⟨rfl, rfl⟩
  have t4 : decide (5000 < n) = false := by simpa using hn2
  have hne : p ≠ [] := by rintro rfl; simp at h0
  obtain ⟨b, off, cap, rfl, hlt, hc⟩ := hl.out hne
  have HC := hid hc
  have HN : Hid (0 < p.length ∧ p.length ≤ 5 ∧ -5000 ≤ n ∧ n ≤ 5000) := hid (by omega)
  clear hc hl hne
  go_enter Tryd.func14, Tryd.ntmps14
  go_wp2
  go_loop [5] (fun i => ∃ k : Nat, k ≤ p.length ∧ i = .int .i64 k ∧ Hid (∀ j, j < k → -5000 ≤ p[j]?.getD 0 ∧ p[j]?.getD 0 ≤ 5000)) (fun i => p.length - (intOf i).toNat)
  case atStart => exact ⟨0, Nat.zero_le _, rfl, fun j hj => absurd hj (Nat.not_lt_zero _)⟩
  case round =>
    obtain ⟨k, hk, rfl, hall⟩ := hrel
    by_cases hlt : k < p.length
    · have hcx := HC.out k hlt
      have hin := hid (Um.at_mem hlt)
      have hkk : (k : Int) < (p.length : Int) := by omega
      have HX : Hid (∀ x, p[k]?.getD 0 = x → (-5000 ≤ x ∧ x ≤ 5000) → ∀ j, j < k + 1 → -5000 ≤ p[j]?.getD 0 ∧ p[j]?.getD 0 ≤ 5000) := by
        rintro x rfl hx j hj
        rcases (by omega : j < k ∨ j = k) with h | rfl
        · exact hall.out j h
        · exact hx
      generalize hg : p[k]?.getD 0 = x at hcx hin
      have HG := hid hg
      clear hg hall HC
      by_cases hx1 : x < -5000
      · have s1 : decide (x < -5000) = true := by simpa using hx1
        have HR : Hid (Um.small p n = false) := hid (Um.small_no (fun h => by have := h.2.2.2.2 x hin.out; omega))
        clear hx1
        go_wp2
        go_returns
        rw [HR.out]; exact ⟨rfl, rfl⟩
      · have s1 : decide (x < -5000) = false := by simpa using hx1
        by_cases hx2 : 5000 < x
        · have s2 : decide (5000 < x) = true := by simpa using hx2
          have HR : Hid (Um.small p n = false) := hid (Um.small_no (fun h => by have := h.2.2.2.2 x hin.out; omega))
          clear hx1 hx2
          go_wp2
          go_returns
          rw [HR.out]; exact ⟨rfl, rfl⟩
        · have s2 : decide (5000 < x) = false := by simpa using hx2
          have HB : Hid (-5000 ≤ x ∧ x ≤ 5000) := hid (by omega)
          clear hx1 hx2
          go_wp2
          exact ⟨⟨k + 1, by omega, rfl, HX.out x HG.out HB.out⟩, by simp [intOf]; omega⟩
    · obtain rfl : k = p.length := by omega
      have HR : Hid (Um.small p n = true) := hid (Um.small_ok.2 ⟨HN.out.1, HN.out.2.1, HN.out.2.2.1, HN.out.2.2.2, fun c hcm => by
        obtain ⟨j, hj, rfl⟩ := List.getElem_of_mem hcm
        have := hall.out j hj
        rwa [List.getElem?_eq_getElem hj] at this⟩)
      clear HC hall
      go_wp2
      go_returns
      rw [HR.out]; exact ⟨rfl, rfl⟩

set_option maxHeartbeats 2000000 in
theorem rExact_any (p : List Int) (v : Value) (n : Int) (w : World) (hl : Li w.heap.size w v p) (h : Um.small p n = true) :
    Calls Tryd.prog 15 #[v, .int .i64 n] w fun e w' => e = .returned (.int .i64 (Um.exN n p p.length)) ∧ w' = w := by
  obtain ⟨h0, h5, n1, n2, hcs⟩ := Um.small_ok.1 h
  have hne : p ≠ [] := by rintro rfl; simp at h0
  obtain ⟨b, off, cap, rfl, hlt, hc⟩ := hl.out hne
  have HC := hid hc
  have HS := hid h
  have HP := hid hcs
  clear hc hl hne h hcs
  go_enter Tryd.func15, Tryd.ntmps15
  go_wp2
  go_loop [5, 6] (fun s i => ∃ k : Nat, k ≤ p.length ∧ i = .int .i64 k ∧ s = .int .i64 (Um.exN n p k)) (fun _ i => p.length - (intOf i).toNat)
  case atStart => exact ⟨0, Nat.zero_le _, rfl, rfl⟩
  case round =>
    obtain ⟨k, hk, rfl, rfl⟩ := hrel
    by_cases hlt : k < p.length
    · have hcx := HC.out k hlt
      have hkk : (k : Int) < (p.length : Int) := by omega
      have HE := hid (Um.ex_step HS.out hlt)
      have hb := Um.ex_bound HS.out (k := k + 1) (by omega)
      rw [← HE.out] at hb
      have hx := HP.out _ (Um.at_mem hlt)
      generalize p[k]?.getD 0 = x at *
      generalize hs : Um.exN n p k = s at *
      clear hs HC HP
      obtain ⟨x1, x2⟩ := hx
      obtain ⟨b1, b2⟩ := hb
      go_wp2
      go_loop [7, 8] (fun y j => ∃ m : Nat, m ≤ 4 ∧ j = .int .i64 m ∧ y = .int .i64 (Um.it x n k m)) (fun _ j => 4 - (intOf j).toNat)
      case atStart => exact ⟨0, by omega, rfl, rfl⟩
      case round =>
        obtain ⟨m, hm, rfl, rfl⟩ := hrel
        by_cases hm4 : m < 4
        · have hmi : (m : Int) < 4 := by omega
          have bb := Um.it_small ⟨x1, x2⟩ ⟨n1, n2⟩ k (j := m + 1) (by omega)
          have HI := hid (Um.it_succ x n k m)
          by_cases hmk : m < k
          · have t : decide ((m : Int) < (k : Int)) = true := by simp; omega
            rw [HI.out, if_pos hmk] at bb
            have HJ : Hid (Um.it x n k (m + 1) = Um.it x n k m * n) := by rw [HI.out, if_pos hmk]; rfl
            clear HI
            generalize Um.it x n k m = y at *
            obtain ⟨b3, b4⟩ := bb
            go_wp2
            exact ⟨⟨m + 1, by omega, rfl, by rw [HJ.out]⟩, by simp [intOf]; omega⟩
          · have t : decide ((m : Int) < (k : Int)) = false := by simp; omega
            rw [HI.out, if_neg hmk] at bb
            have HJ : Hid (Um.it x n k (m + 1) = Um.it x n k m * 1000) := by rw [HI.out, if_neg hmk]; rfl
            clear HI
            generalize Um.it x n k m = y at *
            obtain ⟨b3, b4⟩ := bb
            go_wp2
            exact ⟨⟨m + 1, by omega, rfl, by rw [HJ.out]⟩, by simp [intOf]; omega⟩
        · obtain rfl : m = 4 := by omega
          generalize Um.it x n k 4 = y at *
          go_wp2
          exact ⟨⟨k + 1, by omega, rfl, by rw [← HE.out]⟩, by simp [intOf]; omega⟩
    · obtain rfl : k = p.length := by omega
      clear HC HP
      go_wp2
      go_returns
      exact ⟨rfl, rfl⟩

end Go.Proofs.YthoiiffdigkodaaDoor
