/-
  What the document's answer (package spanref1) to polynomials is: Poly, Over at anything.
-/
import Derived.Test.YtfmjndipanlcoaaDoorRefOne
import Derived.Test.YtfmjndipanlcoaaDoorPoly
import Derived.LoopTactic
namespace Go.Proofs.YtfmjndipanlcoaaDoor
set_option linter.unusedSimpArgs false
open Go.RowKit

set_option maxHeartbeats 1000000 in
theorem rPoly_any (B : Nat) (p : List Int) (v : Value) (w : World) (hl : Li B w v p) :
    Calls Tryd.prog 24 #[v] w fun e w' => e = .returned (.int .i64 (Um.pchk p)) ∧ w' = w := by
  by_cases h0 : p = []
  · subst h0
    obtain ⟨a, cap, rfl, -⟩ := hl
    have z : (([] : List Int).length) = 0 := rfl
    rw [pchk_none, z]
    go_enter Tryd.func24, Tryd.ntmps24
    go_wp2
    go_returns
    exact ⟨rfl, rfl⟩
  have hp : 0 < p.length := List.length_pos_iff.2 h0
  have z : ((p.length : Int) == 0) = false := by simpa using h0
  by_cases h5 : 5 < p.length
  · obtain ⟨a, cap, rfl, -⟩ := hl
    have z2 : decide (5 < (p.length : Int)) = true := by simp; omega
    rw [pchk_full h5]
    clear h0 h5
    go_enter Tryd.func24, Tryd.ntmps24
    go_wp2
    go_returns
    exact ⟨rfl, rfl⟩
  have z2 : decide (5 < (p.length : Int)) = false := by simp; omega
  have HR := hid (pchk_may h0 h5)
  obtain ⟨b, off, cap, rfl, hlt, hc⟩ := hl.out h0
  have HC := hid hc
  clear hc hl h0
  generalize Um.pchk p = T at *
  go_enter Tryd.func24, Tryd.ntmps24
  go_wp2
  go_loop [3] (fun i => ∃ k : Nat, k ≤ p.length ∧ i = .int .i64 k ∧ Hid (∀ j, j < k → Um.may (p[j]?.getD 0) = true)) (fun i => p.length - (intOf i).toNat)
  case atStart => exact ⟨0, Nat.zero_le _, rfl, fun j hj => absurd hj (Nat.not_lt_zero _)⟩
  case round =>
    obtain ⟨k, hk, rfl, hall⟩ := hrel
    by_cases hlt : k < p.length
    · have hcx := HC.out k hlt
      have hin := hid (Um.at_mem hlt)
      have hkk : (k : Int) < (p.length : Int) := by omega
      have HX : Hid (∀ x, p[k]?.getD 0 = x → Um.may x = true → ∀ j, j < k + 1 → Um.may (p[j]?.getD 0) = true) := by
        rintro x rfl hx j hj
        rcases (by omega : j < k ∨ j = k) with h | rfl
        · exact hall.out j h
        · exact hx
      generalize hg : p[k]?.getD 0 = x at hcx hin
      have HG := hid hg
      clear hg HC hall
      cases hm : Um.may x
      · go_wp2_with (go_at_call 63; refine (rMay_any _ _).mono ?_; rintro e w1 ⟨rfl, rfl⟩)
        go_returns
        have : p.all Um.may = false := by
          rw [← Bool.not_eq_true, List.all_eq_true]
          intro h
          rw [h x hin.out] at hm; cases hm
        rw [HR.out, this]
        exact ⟨rfl, rfl⟩
      · go_wp2_with (go_at_call 63; refine (rMay_any _ _).mono ?_; rintro e w1 ⟨rfl, rfl⟩)
        exact ⟨⟨k + 1, by omega, rfl, HX.out x HG.out hm⟩, by simp [intOf]; omega⟩
    · obtain rfl : k = p.length := by omega
      clear HC
      go_wp2
      go_returns
      have : p.all Um.may = true := by
        rw [List.all_eq_true]
        intro c hcm
        obtain ⟨j, hj, rfl⟩ := List.getElem_of_mem hcm
        have := hall.out j hj
        rwa [List.getElem?_eq_getElem hj] at this
      rw [HR.out, this]
      exact ⟨rfl, rfl⟩

theorem rOver_any (p : List Int) (v : Value) (lo hi : Int) (w : World) (hl : Li w.heap.size w v p) :
    Calls Tryd.prog 26 #[v, .agg #[.int .i64 lo, .int .i64 hi]] w fun e w' => e = .returned (.int .i64 (Um.over p lo hi)) ∧ Below w.heap.size w w' := by
  have HP := fun w1 hl => hid (rPoly_any w.heap.size p v w1 hl)
  have hl2 := hl.keep ((Below.refl _ _).alloc (Nat.le_refl _) (.cells #[.int .i64 lo, .int .i64 hi] 23))
  obtain ⟨a, cap, rfl, -⟩ := hl
  by_cases h : Um.pchk p = 0
  · have k : (Um.pchk p == 0) = true := by simpa using h
    rw [over_span h]
    clear h
    go_enter Tryd.func26, Tryd.ntmps26
    go_wp2_with (first | (go_at_call 24; refine (HP _ hl2).out.mono ?_; rintro e w1 ⟨rfl, rfl⟩) | (go_at_call 8; refine (rSpan_any _ _ _).mono ?_; rintro e w1 ⟨rfl, rfl⟩))
    go_returns
    exact ⟨rfl, by go_grown⟩
  · have k : (Um.pchk p == 0) = false := by simpa using h
    rw [over_poly h]
    clear h
    go_enter Tryd.func26, Tryd.ntmps26
    go_wp2_with (first | (go_at_call 24; refine (HP _ hl2).out.mono ?_; rintro e w1 ⟨rfl, rfl⟩) | (go_at_call 8; refine (rSpan_any _ _ _).mono ?_; rintro e w1 ⟨rfl, rfl⟩))
    go_returns
    exact ⟨rfl, by go_grown⟩
end Go.Proofs.YtfmjndipanlcoaaDoor
