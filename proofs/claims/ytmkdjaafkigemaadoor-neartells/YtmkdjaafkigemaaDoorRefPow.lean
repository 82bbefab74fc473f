/-
  What the document's answer (package spanref1) to powers is: again, Far, Middle, Power at right spans.
-/
import Derived.Test.YtmkdjaafkigemaaDoorRef
import Derived.Test.YtmkdjaafkigemaaDoorMaths
import Derived.LoopTactic
namespace Go.Proofs.YtmkdjaafkigemaaDoor
set_option linter.unusedSimpArgs false
open Go.RowKit

theorem ag_go {n : Int} {k : Nat} (h : (Um.agR n k).2.2 = 0) (h2 : Um.may (Um.ce ((Um.agR n k).2.1 * n) 1000) = true) : Um.agR n (k + 1) = (Um.fl ((Um.agR n k).1 * n) 1000, Um.ce ((Um.agR n k).2.1 * n) 1000, 0) := by
  rw [Um.ag_succ, if_pos h, if_pos h2]
theorem ag_stay {n : Int} {k : Nat} (h : ¬ (Um.agR n k).2.2 = 0) : ∀ m, Um.agR n (k + m) = (0, 0, 4)
  | 0 => (Um.ag_fault n k).resolve_left h
  | m + 1 => by
    have i := ag_stay h m
    show Um.agR n (k + m + 1) = _
    rw [Um.ag_succ, i]; rfl
theorem ag_stop {n : Int} {k m : Nat} (hk : k < m) (h : (Um.agR n k).2.2 = 0) (h2 : Um.may (Um.ce ((Um.agR n k).2.1 * n) 1000) = false) : Um.agR n m = (0, 0, 4) := by
  have e : Um.agR n (k + 1) = (0, 0, 4) := by rw [Um.ag_succ, if_pos h, if_neg (by rw [h2]; decide)]
  obtain ⟨j, rfl⟩ : ∃ j, m = k + 1 + j := ⟨m - (k + 1), by omega⟩
  exact ag_stay (by rw [e]; decide) j
theorem ag_bound {n : Int} (hn : 0 ≤ n) (k : Nat) : 0 ≤ (Um.agR n k).1 ∧ (Um.agR n k).1 ≤ 1000000000 ∧ 0 ≤ (Um.agR n k).2.1 ∧ (Um.agR n k).2.1 ≤ 1000000000 := by
  by_cases h : (Um.agR n k).2.2 = 0
  · have := Um.ag_right hn k h
    omega
  · rw [(Um.ag_fault n k).resolve_left h]; decide

set_option maxHeartbeats 1000000 in
theorem rAgain_nat (n : Int) (K : Nat) (w : World) (hn : 0 ≤ n) (hn2 : n ≤ 1000000000) (hK : K ≤ 4) :
    Calls Tryd.prog 46 #[.int .i64 n, .int .i64 K] w fun e w' => e = .returned (.tuple #[.int .i64 (Um.agR n K).1, .int .i64 (Um.agR n K).2.1, .int .i64 (Um.agR n K).2.2]) ∧ w' = w := by
  go_enter Tryd.func46, Tryd.ntmps46
  go_wp2
  go_loop [7, 8, 9] (fun lo hi i => ∃ k : Nat, k ≤ K ∧ i = .int .i64 k ∧ lo = .int .i64 (Um.agR n k).1 ∧ hi = .int .i64 (Um.agR n k).2.1 ∧ Hid ((Um.agR n k).2.2 = 0)) (fun _ _ i => K - (intOf i).toNat)
  case atStart => exact ⟨0, by omega, rfl, rfl, rfl, rfl⟩
  case round =>
    obtain ⟨k, hk, rfl, rfl, rfl, h0⟩ := hrel
    have HS := fun (hk : k < K) h2 => hid (ag_stop hk h0.out h2)
    have HG := fun h2 => hid (ag_go h0.out h2)
    have r := ag_bound hn k
    generalize hp : (Um.agR n k).1 = p at *
    generalize hq : (Um.agR n k).2.1 = q at *
    have HP := hid hp
    have HQ := hid hq
    clear hp hq
    have b1 := Um.mul_bound (a := p) (b := n) ((Um.may_iff _).2 (by omega)) ((Um.may_iff _).2 (by omega))
    have b2 := Um.mul_bound (a := q) (b := n) ((Um.may_iff _).2 (by omega)) ((Um.may_iff _).2 (by omega))
    obtain ⟨r1, r2, r3, r4⟩ := r
    obtain ⟨b3, b4⟩ := b1
    obtain ⟨b5, b6⟩ := b2
    have HFl := fun w => hid (rFloor_any (p * n) 1000 w (by decide) (by omega) (by omega))
    have HCe := fun w => hid (rCeil_any (q * n) 1000 w (by decide) (by omega) (by omega))
    generalize Um.fl (p * n) 1000 = f at *
    generalize Um.ce (q * n) 1000 = c at *
    cases hm : Um.may c
    all_goals go_wp2_with (first | (go_at_call 47; refine (HFl _).out.mono ?_; rintro e w1 ⟨rfl, rfl⟩) | (go_at_call 48; refine (HCe _).out.mono ?_; rintro e w1 ⟨rfl, rfl⟩) | (go_at_call 14; refine (rMay_any _ _).mono ?_; rintro e w1 ⟨rfl, rfl⟩))
    · go_returns
      rw [(HS (by omega) hm).out]
      exact ⟨rfl, rfl⟩
    · have : k = K := by omega
      subst this
      go_returns
      rw [HP.out, HQ.out, h0.out]
      exact ⟨rfl, rfl⟩
    · have e := (HG hm).out
      exact ⟨⟨k + 1, by omega, rfl, by rw [e], by rw [e], by rw [Hid, e]⟩, by simp [intOf]; omega⟩
    · have : k = K := by omega
      subst this
      go_returns
      rw [HP.out, HQ.out, h0.out]
      exact ⟨rfl, rfl⟩
theorem rAgain_any (n t : Int) (K : Nat) (w : World) (ht : t = K) (hn : 0 ≤ n) (hn2 : n ≤ 1000000000) (hK : K ≤ 4) :
    Calls Tryd.prog 46 #[.int .i64 n, .int .i64 t] w fun e w' => e = .returned (.tuple #[.int .i64 (Um.agR n K).1, .int .i64 (Um.agR n K).2.1, .int .i64 (Um.agR n K).2.2]) ∧ w' = w := by
  subst ht; exact rAgain_nat n K w hn hn2 hK

theorem rfar_lo {lo hi : Int} (h : lo ≤ hi) : (Um.farR lo hi).1 = max 0 (max lo (-hi)) := by
  unfold Um.farR Um.ab
  simp only []
  repeat' split
  all_goals omega
theorem rfar_hi {lo hi : Int} (h : lo ≤ hi) : (Um.farR lo hi).2 = max (-lo) hi := by
  unfold Um.farR Um.ab
  simp only []
  repeat' split
  all_goals omega
set_option maxHeartbeats 1000000 in
theorem rFar_any (lo hi : Int) (w : World) (a1 : -1000000000 ≤ lo) (a2 : lo ≤ 1000000000) (a3 : -1000000000 ≤ hi) (a4 : hi ≤ 1000000000) (h : lo ≤ hi) :
    Calls Tryd.prog 20 #[.agg #[.int .i64 lo, .int .i64 hi]] w fun e w' => e = .returned (.tuple #[.int .i64 (Um.farR lo hi).1, .int .i64 (Um.farR lo hi).2]) ∧ w' = (w.alloc (.cells #[.int .i64 lo, .int .i64 hi] 55)).alloc (.cells #[.int .i64 lo, .int .i64 hi] 55) := by
  have H1 := hid (rfar_lo h)
  have H2 := hid (rfar_hi h)
  generalize Um.farR lo hi = r at *
  by_cases hz : lo ≤ 0 ∧ 0 ≤ hi
  · have z : (decide (lo ≤ 0) && decide (0 ≤ hi)) = true := by simpa using hz
    go_enter Tryd.func20, Tryd.ntmps20
    go_wp2_with (go_at_call 32; refine (rZero_any _ _ _).mono ?_; rintro e w1 ⟨rfl, rfl⟩)
    all_goals
      go_returns
      exact ⟨ret2i (by rw [H1.out]; omega) (by rw [H2.out]; omega), rfl⟩
  · have z : (decide (lo ≤ 0) && decide (0 ≤ hi)) = false := by
      cases hh : (decide (lo ≤ 0) && decide (0 ≤ hi))
      · rfl
      · exact absurd (by simpa using hh) hz
    go_enter Tryd.func20, Tryd.ntmps20
    go_wp2_with (go_at_call 32; refine (rZero_any _ _ _).mono ?_; rintro e w1 ⟨rfl, rfl⟩)
    all_goals
      go_returns
      exact ⟨ret2i (by rw [H1.out]; omega) (by rw [H2.out]; omega), rfl⟩

set_option maxRecDepth 100000 in
set_option maxHeartbeats 4000000 in
theorem rPower_even (lo hi n : Int) (k : Nat) (w : World) (hc : Um.chk lo hi = 0) (hk : n = k) (h4 : k ≤ 4) (hp : k % 2 = 0) :
    Calls Tryd.prog 30 #[.agg #[.int .i64 lo, .int .i64 hi], .int .i64 n] w fun e w' => e = .returned (.tuple #[.agg #[.int .i64 (Um.powR lo hi k).1, .int .i64 (Um.powR lo hi k).2.1], .int .i64 (Um.powR lo hi k).2.2]) ∧ Below w.heap.size w w' := by
  obtain ⟨m1, m2, m3⟩ := Um.chk_ok.1 hc
  obtain ⟨b1, b2⟩ := (Um.may_iff lo).1 m1
  obtain ⟨b3, b4⟩ := (Um.may_iff hi).1 m2
  have t3 : (n.tmod 2 == 0) = true := by
    have : n = 0 ∨ n = 1 ∨ n = 2 ∨ n = 3 ∨ n = 4 := by omega
    rcases this with rfl | rfl | rfl | rfl | rfl <;> first | rfl | (exfalso; omega)
  have HA := fun x w h1 h2 => hid (rAgain_any x n k w hk h1 h2 h4)
  clear hk
  have HR : Hid (Um.powR lo hi k = Um.both (Um.agR (Um.farR lo hi).1 k) (Um.agR (Um.farR lo hi).2 k)) := by unfold Um.powR; rw [if_pos hp]; rfl
  have r := Um.far_right m3
  have m := Um.far_may m1 m2
  have HF := fun w => hid (rFar_any lo hi w b1 b2 b3 b4 m3)
  generalize (Um.farR lo hi).1 = f at *
  generalize (Um.farR lo hi).2 = t at *
  generalize Um.powR lo hi k = R at *
  clear hc m1 m2 hp
  by_cases ha : (Um.agR f k).2.2 = 0
  · by_cases hb : (Um.agR t k).2.2 = 0
    · have HJ : Hid (R = ((Um.agR f k).1, (Um.agR t k).2.1, 0)) := by rw [HR.out]; unfold Um.both; simp [ha, hb, Hid]
      have k2 : ((Um.agR f k).2.2 != 0) = false := by simpa using ha
      have k3 : ((Um.agR t k).2.2 != 0) = false := by simpa using hb
      clear ha hb
      go_enter Tryd.func30, Tryd.ntmps30
      go_wp2_with (first | (go_at_call 20; refine (HF _).out.mono ?_; rintro e w1 ⟨rfl, rfl⟩) | (go_at_call 46; refine (HA _ _ (by omega) (by omega)).out.mono ?_; rintro e w1 ⟨rfl, rfl⟩))
      go_returns
      rw [HJ.out]
      exact ⟨rfl, by go_grown⟩
    · have HJ : Hid (R = (0, 0, (Um.agR t k).2.2)) := by rw [HR.out]; unfold Um.both; simp [ha, hb, Hid]
      have k2 : ((Um.agR f k).2.2 != 0) = false := by simpa using ha
      have k3 : ((Um.agR t k).2.2 != 0) = true := by simpa using hb
      clear ha hb
      go_enter Tryd.func30, Tryd.ntmps30
      go_wp2_with (first | (go_at_call 20; refine (HF _).out.mono ?_; rintro e w1 ⟨rfl, rfl⟩) | (go_at_call 46; refine (HA _ _ (by omega) (by omega)).out.mono ?_; rintro e w1 ⟨rfl, rfl⟩))
      go_returns
      rw [HJ.out]
      exact ⟨rfl, by go_grown⟩
  · have HJ : Hid (R = (0, 0, (Um.agR f k).2.2)) := by rw [HR.out]; unfold Um.both; simp [ha, Hid]
    have k2 : ((Um.agR f k).2.2 != 0) = true := by simpa using ha
    clear ha
    go_enter Tryd.func30, Tryd.ntmps30
    go_wp2_with (first | (go_at_call 20; refine (HF _).out.mono ?_; rintro e w1 ⟨rfl, rfl⟩) | (go_at_call 46; refine (HA _ _ (by omega) (by omega)).out.mono ?_; rintro e w1 ⟨rfl, rfl⟩))
    go_returns
    rw [HJ.out]
    exact ⟨rfl, by go_grown⟩

set_option maxRecDepth 100000 in
set_option maxHeartbeats 4000000 in
theorem rPower_up (lo hi n : Int) (k : Nat) (w : World) (hc : Um.chk lo hi = 0) (hk : n = k) (h4 : k ≤ 4) (hp : ¬ k % 2 = 0) (hl : 0 ≤ lo) (hh : 0 ≤ hi) :
    Calls Tryd.prog 30 #[.agg #[.int .i64 lo, .int .i64 hi], .int .i64 n] w fun e w' => e = .returned (.tuple #[.agg #[.int .i64 (Um.powR lo hi k).1, .int .i64 (Um.powR lo hi k).2.1], .int .i64 (Um.powR lo hi k).2.2]) ∧ Below w.heap.size w w' := by
  obtain ⟨m1, m2, m3⟩ := Um.chk_ok.1 hc
  obtain ⟨b1, b2⟩ := (Um.may_iff lo).1 m1
  obtain ⟨b3, b4⟩ := (Um.may_iff hi).1 m2
  have t3 : (n.tmod 2 == 0) = false := by
    have : n = 0 ∨ n = 1 ∨ n = 2 ∨ n = 3 ∨ n = 4 := by omega
    rcases this with rfl | rfl | rfl | rfl | rfl <;> first | rfl | (exfalso; omega)
  have HA := fun x w h1 h2 => hid (rAgain_any x n k w hk h1 h2 h4)
  clear hk
  have e1 : Um.endR lo k = Um.agR lo k := by unfold Um.endR; rw [if_pos hl]
  have e2 : Um.endR hi k = Um.agR hi k := by unfold Um.endR; rw [if_pos hh]
  have HR : Hid (Um.powR lo hi k = Um.both (Um.agR lo k) (Um.agR hi k)) := by unfold Um.powR; rw [if_neg hp, e1, e2]; rfl
  have y1 : decide (0 ≤ lo) = true := by simpa using hl
  have y2 : decide (0 ≤ hi) = true := by simpa using hh
  have c1 := ag_bound (n := lo) (by omega) k
  have c2 := ag_bound (n := hi) (by omega) k
  generalize Um.powR lo hi k = R at *
  clear hc m1 m2 hp e1 e2
  by_cases ha : (Um.agR lo k).2.2 = 0
  · by_cases hb : (Um.agR hi k).2.2 = 0
    · have HJ : Hid (R = ((Um.agR lo k).1, (Um.agR hi k).2.1, 0)) := by rw [HR.out]; unfold Um.both; simp [ha, hb, Hid]
      have k2 : ((Um.agR lo k).2.2 != 0) = false := by simpa using ha
      have k3 : ((Um.agR hi k).2.2 != 0) = false := by simpa using hb
      clear ha hb
      go_enter Tryd.func30, Tryd.ntmps30
      go_wp2_with (first | (go_at_call 46; refine (HA _ _ (by omega) (by omega)).out.mono ?_; rintro e w1 ⟨rfl, rfl⟩))
      go_returns
      rw [HJ.out]
      exact ⟨rfl, by go_grown⟩
    · have HJ : Hid (R = (0, 0, (Um.agR hi k).2.2)) := by rw [HR.out]; unfold Um.both; simp [ha, hb, Hid]
      have k2 : ((Um.agR lo k).2.2 != 0) = false := by simpa using ha
      have k3 : ((Um.agR hi k).2.2 != 0) = true := by simpa using hb
      clear ha hb
      go_enter Tryd.func30, Tryd.ntmps30
      go_wp2_with (first | (go_at_call 46; refine (HA _ _ (by omega) (by omega)).out.mono ?_; rintro e w1 ⟨rfl, rfl⟩))
      go_returns
      rw [HJ.out]
      exact ⟨rfl, by go_grown⟩
  · have HJ : Hid (R = (0, 0, (Um.agR lo k).2.2)) := by rw [HR.out]; unfold Um.both; simp [ha, Hid]
    have k2 : ((Um.agR lo k).2.2 != 0) = true := by simpa using ha
    clear ha
    go_enter Tryd.func30, Tryd.ntmps30
    go_wp2_with (first | (go_at_call 46; refine (HA _ _ (by omega) (by omega)).out.mono ?_; rintro e w1 ⟨rfl, rfl⟩))
    go_returns
    rw [HJ.out]
    exact ⟨rfl, by go_grown⟩

set_option maxRecDepth 100000 in
set_option maxHeartbeats 4000000 in
theorem rPower_over (lo hi n : Int) (k : Nat) (w : World) (hc : Um.chk lo hi = 0) (hk : n = k) (h4 : k ≤ 4) (hp : ¬ k % 2 = 0) (hl : lo < 0) (hh : 0 ≤ hi) :
    Calls Tryd.prog 30 #[.agg #[.int .i64 lo, .int .i64 hi], .int .i64 n] w fun e w' => e = .returned (.tuple #[.agg #[.int .i64 (Um.powR lo hi k).1, .int .i64 (Um.powR lo hi k).2.1], .int .i64 (Um.powR lo hi k).2.2]) ∧ Below w.heap.size w w' := by
  obtain ⟨m1, m2, m3⟩ := Um.chk_ok.1 hc
  obtain ⟨b1, b2⟩ := (Um.may_iff lo).1 m1
  obtain ⟨b3, b4⟩ := (Um.may_iff hi).1 m2
  have t3 : (n.tmod 2 == 0) = false := by
    have : n = 0 ∨ n = 1 ∨ n = 2 ∨ n = 3 ∨ n = 4 := by omega
    rcases this with rfl | rfl | rfl | rfl | rfl <;> first | rfl | (exfalso; omega)
  have HA := fun x w h1 h2 => hid (rAgain_any x n k w hk h1 h2 h4)
  clear hk
  have e1 : Um.endR lo k = (-(Um.agR (-lo) k).2.1, -(Um.agR (-lo) k).1, (Um.agR (-lo) k).2.2) := by unfold Um.endR; rw [if_neg (by omega)]
  have e2 : Um.endR hi k = Um.agR hi k := by unfold Um.endR; rw [if_pos hh]
  have HR : Hid (Um.powR lo hi k = Um.both ((-(Um.agR (-lo) k).2.1, -(Um.agR (-lo) k).1, (Um.agR (-lo) k).2.2)) (Um.agR hi k)) := by unfold Um.powR; rw [if_neg hp, e1, e2]; rfl
  have y1 : decide (0 ≤ lo) = false := by simpa using hl
  have y2 : decide (0 ≤ hi) = true := by simpa using hh
  have c1 := ag_bound (n := -lo) (by omega) k
  have c2 := ag_bound (n := hi) (by omega) k
  generalize Um.powR lo hi k = R at *
  clear hc m1 m2 hp e1 e2
  by_cases ha : (Um.agR (-lo) k).2.2 = 0
  · by_cases hb : (Um.agR hi k).2.2 = 0
    · have HJ : Hid (R = (-(Um.agR (-lo) k).2.1, (Um.agR hi k).2.1, 0)) := by rw [HR.out]; unfold Um.both; simp [ha, hb, Hid]
      have k2 : ((Um.agR (-lo) k).2.2 != 0) = false := by simpa using ha
      have k3 : ((Um.agR hi k).2.2 != 0) = false := by simpa using hb
      clear ha hb
      go_enter Tryd.func30, Tryd.ntmps30
      go_wp2_with (first | (go_at_call 46; refine (HA _ _ (by omega) (by omega)).out.mono ?_; rintro e w1 ⟨rfl, rfl⟩))
      go_returns
      rw [HJ.out]
      exact ⟨rfl, by go_grown⟩
    · have HJ : Hid (R = (0, 0, (Um.agR hi k).2.2)) := by rw [HR.out]; unfold Um.both; simp [ha, hb, Hid]
      have k2 : ((Um.agR (-lo) k).2.2 != 0) = false := by simpa using ha
      have k3 : ((Um.agR hi k).2.2 != 0) = true := by simpa using hb
      clear ha hb
      go_enter Tryd.func30, Tryd.ntmps30
      go_wp2_with (first | (go_at_call 46; refine (HA _ _ (by omega) (by omega)).out.mono ?_; rintro e w1 ⟨rfl, rfl⟩))
      go_returns
      rw [HJ.out]
      exact ⟨rfl, by go_grown⟩
  · have HJ : Hid (R = (0, 0, (Um.agR (-lo) k).2.2)) := by rw [HR.out]; unfold Um.both; simp [ha, Hid]
    have k2 : ((Um.agR (-lo) k).2.2 != 0) = true := by simpa using ha
    clear ha
    go_enter Tryd.func30, Tryd.ntmps30
    go_wp2_with (first | (go_at_call 46; refine (HA _ _ (by omega) (by omega)).out.mono ?_; rintro e w1 ⟨rfl, rfl⟩))
    go_returns
    rw [HJ.out]
    exact ⟨rfl, by go_grown⟩

set_option maxRecDepth 100000 in
set_option maxHeartbeats 4000000 in
theorem rPower_down (lo hi n : Int) (k : Nat) (w : World) (hc : Um.chk lo hi = 0) (hk : n = k) (h4 : k ≤ 4) (hp : ¬ k % 2 = 0) (hl : lo < 0) (hh : hi < 0) :
    Calls Tryd.prog 30 #[.agg #[.int .i64 lo, .int .i64 hi], .int .i64 n] w fun e w' => e = .returned (.tuple #[.agg #[.int .i64 (Um.powR lo hi k).1, .int .i64 (Um.powR lo hi k).2.1], .int .i64 (Um.powR lo hi k).2.2]) ∧ Below w.heap.size w w' := by
  obtain ⟨m1, m2, m3⟩ := Um.chk_ok.1 hc
  obtain ⟨b1, b2⟩ := (Um.may_iff lo).1 m1
  obtain ⟨b3, b4⟩ := (Um.may_iff hi).1 m2
  have t3 : (n.tmod 2 == 0) = false := by
    have : n = 0 ∨ n = 1 ∨ n = 2 ∨ n = 3 ∨ n = 4 := by omega
    rcases this with rfl | rfl | rfl | rfl | rfl <;> first | rfl | (exfalso; omega)
  have HA := fun x w h1 h2 => hid (rAgain_any x n k w hk h1 h2 h4)
  clear hk
  have e1 : Um.endR lo k = (-(Um.agR (-lo) k).2.1, -(Um.agR (-lo) k).1, (Um.agR (-lo) k).2.2) := by unfold Um.endR; rw [if_neg (by omega)]
  have e2 : Um.endR hi k = (-(Um.agR (-hi) k).2.1, -(Um.agR (-hi) k).1, (Um.agR (-hi) k).2.2) := by unfold Um.endR; rw [if_neg (by omega)]
  have HR : Hid (Um.powR lo hi k = Um.both ((-(Um.agR (-lo) k).2.1, -(Um.agR (-lo) k).1, (Um.agR (-lo) k).2.2)) ((-(Um.agR (-hi) k).2.1, -(Um.agR (-hi) k).1, (Um.agR (-hi) k).2.2))) := by unfold Um.powR; rw [if_neg hp, e1, e2]; rfl
  have y1 : decide (0 ≤ lo) = false := by simpa using hl
  have y2 : decide (0 ≤ hi) = false := by simpa using hh
  have c1 := ag_bound (n := -lo) (by omega) k
  have c2 := ag_bound (n := -hi) (by omega) k
  generalize Um.powR lo hi k = R at *
  clear hc m1 m2 hp e1 e2
  by_cases ha : (Um.agR (-lo) k).2.2 = 0
  · by_cases hb : (Um.agR (-hi) k).2.2 = 0
    · have HJ : Hid (R = (-(Um.agR (-lo) k).2.1, -(Um.agR (-hi) k).1, 0)) := by rw [HR.out]; unfold Um.both; simp [ha, hb, Hid]
      have k2 : ((Um.agR (-lo) k).2.2 != 0) = false := by simpa using ha
      have k3 : ((Um.agR (-hi) k).2.2 != 0) = false := by simpa using hb
      clear ha hb
      go_enter Tryd.func30, Tryd.ntmps30
      go_wp2_with (first | (go_at_call 46; refine (HA _ _ (by omega) (by omega)).out.mono ?_; rintro e w1 ⟨rfl, rfl⟩))
      go_returns
      rw [HJ.out]
      exact ⟨rfl, by go_grown⟩
    · have HJ : Hid (R = (0, 0, (Um.agR (-hi) k).2.2)) := by rw [HR.out]; unfold Um.both; simp [ha, hb, Hid]
      have k2 : ((Um.agR (-lo) k).2.2 != 0) = false := by simpa using ha
      have k3 : ((Um.agR (-hi) k).2.2 != 0) = true := by simpa using hb
      clear ha hb
      go_enter Tryd.func30, Tryd.ntmps30
      go_wp2_with (first | (go_at_call 46; refine (HA _ _ (by omega) (by omega)).out.mono ?_; rintro e w1 ⟨rfl, rfl⟩))
      go_returns
      rw [HJ.out]
      exact ⟨rfl, by go_grown⟩
  · have HJ : Hid (R = (0, 0, (Um.agR (-lo) k).2.2)) := by rw [HR.out]; unfold Um.both; simp [ha, Hid]
    have k2 : ((Um.agR (-lo) k).2.2 != 0) = true := by simpa using ha
    clear ha
    go_enter Tryd.func30, Tryd.ntmps30
    go_wp2_with (first | (go_at_call 46; refine (HA _ _ (by omega) (by omega)).out.mono ?_; rintro e w1 ⟨rfl, rfl⟩))
    go_returns
    rw [HJ.out]
    exact ⟨rfl, by go_grown⟩

theorem rPower_any (lo hi n : Int) (k : Nat) (w : World) (hc : Um.chk lo hi = 0) (hk : n = k) (h4 : k ≤ 4) :
    Calls Tryd.prog 30 #[.agg #[.int .i64 lo, .int .i64 hi], .int .i64 n] w fun e w' => e = .returned (.tuple #[.agg #[.int .i64 (Um.powR lo hi k).1, .int .i64 (Um.powR lo hi k).2.1], .int .i64 (Um.powR lo hi k).2.2]) ∧ Below w.heap.size w w' := by
  by_cases hp : k % 2 = 0
  · exact rPower_even lo hi n k w hc hk h4 hp
  · obtain ⟨_, _, m3⟩ := Um.chk_ok.1 hc
    rcases (by omega : 0 ≤ lo ∨ (lo < 0 ∧ 0 ≤ hi) ∨ (lo < 0 ∧ hi < 0)) with h | ⟨h, h'⟩ | ⟨h, h'⟩
    · exact rPower_up lo hi n k w hc hk h4 hp h (by omega)
    · exact rPower_over lo hi n k w hc hk h4 hp h h'
    · exact rPower_down lo hi n k w hc hk h4 hp h h'
end Go.Proofs.YtmkdjaafkigemaaDoor
