/-
  What the document's answer (package spanref2) to polynomials of some unknowns at numbers is: Exact, Point of what is right.
-/
import Derived.Test.YtmgabhphnafokaaGreatDoorRefForm
namespace Go.Proofs.YtmgabhphnafokaaGreatDoor
set_option linter.unusedSimpArgs false
open Go.RowKit

set_option maxRecDepth 100000 in
set_option maxHeartbeats 16000000 in
theorem rExactS_any (f : List Um.Tm) (u : Value) (x : List Int) (v : Value) (w : World) (hl : Lt w.heap.size w u f) (hx : Li w.heap.size w v x) (hf : Um.formF f x.length = 0) (hb : Um.bysP f) (hn : Um.numsF x = 0) :
    Calls Tryz.prog 46 #[u, v] w fun e w' => e = .returned (.int .i64 (Um.exS f x f.length)) ∧ w' = w := by
  obtain ⟨⟨l1, l3⟩, h6, -⟩ := Um.form_ok.1 hf
  have HTM := hid (Um.fr_terms hf)
  have HBY := hid hb
  have HNU := hid (Um.nums_ok.1 hn)
  have h3 : x.length ≤ 3 := by omega
  obtain ⟨b2, off2, cap2, rfl, hlt2, hc2⟩ := hx.out (by rintro rfl; simp at l1)
  have HC2 := hid hc2
  obtain ⟨a0, cap0, rfl, -, hor⟩ := hl
  have HOR := hid hor
  clear hor hf hb hn hx hc2 l1 l3
  go_enter Tryz.func46, Tryz.ntmps46
  go_wp2
  go_loop [5, 6] (fun s i => ∃ n : Nat, n ≤ f.length ∧ i = .int .i64 n ∧ s = .int .i64 (Um.exS f x n)) (fun _ i => f.length - (intOf i).toNat)
  case atStart => exact ⟨0, Nat.zero_le _, rfl, rfl⟩
  case round =>
    obtain ⟨n, hnn, rfl, rfl⟩ := hrel
    by_cases hnl : n < f.length
    · have hni : (n : Int) < (f.length : Int) := by omega
      rcases HOR.out with e | ⟨b1, off1, rfl, hlt, hc⟩
      · rw [e] at hnl; simp at hnl
      have HT0 := hid (hc n hnl)
      have z0 := HT0.out.1
      have ht := HTM.out n hnl
      have hby := HBY.out n hnl
      have HS : Hid (Um.exS f x (n + 1) = Um.exS f x n + Um.exT (Um.tm f n) x x.length * 1000 ^ (3 - Um.dgT (Um.tm f n) x.length)) := hid rfl
      have HSB := hid (Um.exs_bound HTM.out HBY.out HNU.out h3 (n := n) hnn)
      have HSB2 := hid (Um.exs_bound HTM.out HBY.out HNU.out h3 (n := n + 1) (by omega))
      clear hc HOR HTM HBY
      generalize Um.tm f n = t at *
      have HDL := hid (fun k (hk : k ≤ 3) => Um.dg_le ht hk)
      have HTT := hid (fun k => Um.tm_times ht k)
      have HWB := hid (fun k j (hk : k < x.length) hj => Um.way_bound ht hby HNU.out h3 (k := k) (j := j) hk hj)
      have HLB := hid (fun m hm => Um.last_bound hby HNU.out (m := m) hm)
      clear ht hby HNU
      go_wp2
      clear z0
      go_loop [7, 8, 9] (fun m l i => ∃ k : Nat, k ≤ x.length ∧ i = .int .i64 k ∧ m = .int .i64 (Um.exT t x k) ∧ l = .int .i64 (3 - (Um.dgT t k : Int))) (fun _ _ i => x.length - (intOf i).toNat)
      case atStart => exact ⟨0, Nat.zero_le _, rfl, rfl, rfl⟩
      case round =>
        obtain ⟨k, hk, rfl, rfl, rfl⟩ := hrel
        by_cases hkl : k < x.length
        · have hkk : (k : Int) < (x.length : Int) := by omega
          have hk3 : (k : Int) < 3 := by omega
          have z1 := HT0.out.times (show k < 3 by omega)
          have z2 : w.cell? ⟨b2, off2 + k, none⟩ = some (.int .i64 (Um.nm x k)) := HC2.out k hkl
          have tt := HTT.out k
          have hd := HDL.out k (by omega)
          have hd1 := HDL.out (k + 1) (by omega)
          have HE : Hid (Um.exT t x (k + 1) = Um.exT t x k * Um.nm x k ^ (Um.tmT t k).toNat) := hid rfl
          have HG : Hid (Um.dgT t (k + 1) = Um.dgT t k + (Um.tmT t k).toNat) := hid rfl
          have hd2 : Um.dgT t k + (Um.tmT t k).toNat ≤ 3 := hd1
          have HB := hid (fun j hj => HWB.out k j hkl hj)
          clear HT0 HTT HDL HWB HLB hd1 HSB HSB2 HS HC2
          generalize hN : Um.nm x k = N at *
          generalize hQ : Um.tmT t k = Q at *
          clear hN hQ
          obtain ⟨q, rfl⟩ : ∃ q : Nat, Q = q := ⟨Q.toNat, by omega⟩
          rw [Int.toNat_natCast] at *
          go_wp2
          go_loop [7, 8, 10] (fun m l i => ∃ j : Nat, j ≤ q ∧ i = .int .i64 j ∧ m = .int .i64 (Um.exT t x k * N ^ j) ∧ l = .int .i64 (3 - (Um.dgT t k : Int) - j)) (fun _ _ i => q - (intOf i).toNat)
          case atStart => exact ⟨0, Nat.zero_le _, rfl, by simp, by simp⟩
          case round =>
            obtain ⟨j, hj, rfl, rfl, rfl⟩ := hrel
            by_cases hjl : j < q
            · have hjj : decide ((j : Int) < (q : Int)) = true := decide_eq_true (by omega)
              have HP : Hid (Um.exT t x k * N ^ (j + 1) = Um.exT t x k * N ^ j * N) := by rw [Int.pow_succ, ← Int.mul_assoc]; exact hid rfl
              obtain ⟨w1, w2⟩ := HB.out (j + 1) (by omega)
              rw [HP.out] at w1 w2
              clear HB HE HG
              generalize Um.exT t x k * N ^ j = M at *
              go_wp2
              exact ⟨⟨j + 1, by omega, by simp, by rw [HP.out], by congr 1; omega⟩, by simp [intOf]; omega⟩
            · obtain rfl : j = q := by omega
              have hjj : decide ((j : Int) < (j : Int)) = false := decide_eq_false (by omega)
              clear HB
              go_wp2
              exact ⟨⟨k + 1, by omega, by simp, by rw [HE.out], by rw [HG.out]; congr 1; omega⟩, by simp [intOf]; omega⟩
        · obtain rfl : k = x.length := by omega
          have hd := HDL.out x.length h3
          obtain ⟨s1, s2⟩ := HSB.out
          obtain ⟨s3, s4⟩ := HSB2.out
          rw [HS.out] at s3 s4
          clear HT0 HTT HDL HWB HSB HSB2 HC2
          generalize hD : Um.dgT t x.length = D at *
          generalize hX : Um.exT t x x.length = X at *
          clear hD hX
          go_wp2
          go_loop [7, 8] (fun m l => ∃ j : Nat, j + D ≤ 3 ∧ m = .int .i64 (X * 1000 ^ j) ∧ l = .int .i64 (3 - (D : Int) - j)) (fun _ l => (intOf l).toNat)
          case atStart => exact ⟨0, by omega, by simp, by simp⟩
          case round =>
            obtain ⟨j, hj, rfl, rfl⟩ := hrel
            by_cases hjl : j + D < 3
            · have hjj : decide ((0 : Int) < 3 - (D : Int) - j) = true := decide_eq_true (by omega)
              have HP : Hid (X * 1000 ^ (j + 1) = X * 1000 ^ j * 1000) := by rw [Int.pow_succ, ← Int.mul_assoc]; exact hid rfl
              obtain ⟨w1, w2⟩ := HLB.out (j + 1) (by omega)
              rw [HP.out] at w1 w2
              clear HLB HS s1 s2 s3 s4
              generalize X * 1000 ^ j = M at *
              go_wp2
              exact ⟨⟨j + 1, by omega, by rw [HP.out], by congr 1; omega⟩, by simp [intOf]; omega⟩
            · have hjj : decide ((0 : Int) < 3 - (D : Int) - j) = false := decide_eq_false (by omega)
              obtain rfl : j = 3 - D := by omega
              obtain ⟨w1, w2⟩ := HLB.out (3 - D) (by omega)
              clear HLB
              generalize X * 1000 ^ (3 - D) = M at *
              go_wp2
              exact ⟨⟨n + 1, by omega, by simp, by rw [HS.out]⟩, by simp [intOf]; omega⟩
    · obtain rfl : n = f.length := by omega
      clear HOR HTM HBY HNU HC2
      go_wp2
      go_returns
      exact ⟨rfl, rfl⟩

set_option maxRecDepth 100000 in
set_option maxHeartbeats 8000000 in
theorem rPoint_any (f : List Um.Tm) (u : Value) (x : List Int) (v : Value) (w : World) (hl : Lt w.heap.size w u f) (hx : Li w.heap.size w v x) (h : Um.atF f x = 0) :
    Calls Tryz.prog 27 #[u, v] w fun e w' => e = .returned (.tuple #[.int .i64 (Um.ptR f x).1, .int .i64 (Um.ptR f x).2]) ∧ w' = w := by
  obtain ⟨hf, hn⟩ := Um.at_ok.1 h
  obtain ⟨⟨l1, l3⟩, h6, -⟩ := Um.form_ok.1 hf
  have HE := fun hb w hl hx => hid (rExactS_any f u x v w hl hx hf hb hn)
  have HS := fun n w => hid (rLittle_any n w)
  have HXB := fun hb => hid (Um.exs_bound (Um.fr_terms hf) hb (Um.nums_ok.1 hn) (by omega) (n := f.length) (Nat.le_refl _))
  have hl0 := hl
  have hx0 := hx
  obtain ⟨a2, cap2, rfl, -⟩ := hx
  obtain ⟨a0, cap0, rfl, -, hor⟩ := hl
  have HOR := hid hor
  have HL := hid hl0
  have HX := hid hx0
  clear hor hf hn hl0 hx0 l1 l3 h
  go_enter Tryz.func27, Tryz.ntmps27
  go_wp2
  go_loop [6] (fun i => ∃ k : Nat, k ≤ f.length ∧ i = .int .i64 k ∧ Hid (∀ j, j < k → Um.litP (Um.tm f j).1)) (fun i => f.length - (intOf i).toNat)
  case atStart => exact ⟨0, Nat.zero_le _, rfl, fun j hj => absurd hj (Nat.not_lt_zero _)⟩
  case round =>
    obtain ⟨k, hk, rfl, hall⟩ := hrel
    by_cases hkl : k < f.length
    · have hkk : (k : Int) < (f.length : Int) := by omega
      rcases HOR.out with e | ⟨b, off, rfl, hlt, hc⟩
      · rw [e] at hkl; simp at hkl
      have z0 := (hc k hkl).1
      have HB := fun h => hid (Um.pt_bad (x := x) hkl h)
      have HY : Hid (Um.litP (Um.tm f k).1 → ∀ j, j < k + 1 → Um.litP (Um.tm f j).1) := by
        intro h j hj
        rcases (by omega : j < k ∨ j = k) with h2 | rfl
        · exact hall.out j h2
        · exact h
      clear hc HOR hall HE HXB HL HX
      generalize (Um.tm f k).1 = m at *
      have HM := fun w => HS m w
      clear HS
      cases hm : Um.litB m
      · have HN := HB (Um.lit_not.1 hm)
        rw [hm] at HM
        clear HB HY hm
        go_wp2_with (go_at_call 44; refine (HM _).out.mono ?_; rintro e wn ⟨rfl, rfl⟩; )
        go_returns
        rw [HN.out]
        exact ⟨rfl, rfl⟩
      · have HN := hid (HY.out (Um.lit_iff.1 hm))
        rw [hm] at HM
        clear HB HY hm
        go_wp2_with (go_at_call 44; refine (HM _).out.mono ?_; rintro e wn ⟨rfl, rfl⟩; )
        exact ⟨⟨k + 1, by omega, by simp, HN.out⟩, by simp [intOf]; omega⟩
    · obtain rfl : k = f.length := by omega
      obtain ⟨e1, e2⟩ := (HXB hall.out).out
      have HE2 := fun w hl hx => HE hall.out w hl hx
      have HPY := fun h => hid (Um.pt_yes (x := x) hall.out h)
      have HPN := fun h => hid (Um.pt_full (x := x) hall.out h)
      have HF := fun w => hid (rFloor_any (Um.exS f x f.length) 1000000000 w (by decide) (by omega) (by omega))
      have HMy := fun n w => hid (rMay_any n w)
      clear HE HXB HOR hall HS e1 e2
      generalize Um.exS f x f.length = X at *
      generalize Um.fl X 1000000000 = N at *
      have HM := fun w => HMy N w
      clear HMy
      cases hm : Um.may N
      · have HZ := HPN (by rw [hm]; decide)
        rw [hm] at HM
        clear HPY HPN hm
        go_wp2_with (first | (go_at_call 46; refine (HE2 _ HL.out HX.out).out.mono ?_; rintro e wn ⟨rfl, rfl⟩; ) | (go_at_call 45; refine (HF _).out.mono ?_; rintro e wn ⟨rfl, rfl⟩; ) | (go_at_call 28; refine (HM _).out.mono ?_; rintro e wn ⟨rfl, rfl⟩; ))
        go_returns
        rw [HZ.out]
        exact ⟨rfl, rfl⟩
      · have HZ := HPY hm
        rw [hm] at HM
        clear HPY HPN hm
        go_wp2_with (first | (go_at_call 46; refine (HE2 _ HL.out HX.out).out.mono ?_; rintro e wn ⟨rfl, rfl⟩; ) | (go_at_call 45; refine (HF _).out.mono ?_; rintro e wn ⟨rfl, rfl⟩; ) | (go_at_call 28; refine (HM _).out.mono ?_; rintro e wn ⟨rfl, rfl⟩; ))
        go_returns
        rw [HZ.out]
        exact ⟨rfl, rfl⟩
end Go.Proofs.YtmgabhphnafokaaGreatDoor
