/-
  Plain arithmetic of what goes together, no program: of a product that need not be whole, by a thousand parts; and of a product that came out of a polynomial's range.
-/
import Derived.Test.YtomkekapgcpihaaDoorNstep
import Derived.Test.YtomkekapgcpihaaDoorMaths
import Derived.Test.YtomkekapgcpihaaDoorMaths3
namespace Um
set_option linter.unusedSimpArgs false

theorem meet_parts {al ah bl bh v : Int} (h1 : al * 1000 ≤ v) (h2 : v ≤ ah * 1000) (h3 : bl * 1000 ≤ v) (h4 : v ≤ bh * 1000) : (meetR al ah bl bh).2.2 = 0 ∧ (meetR al ah bl bh).1 * 1000 ≤ v ∧ v ≤ (meetR al ah bl bh).2.1 * 1000 := by
  rw [meet_yes (by omega)]
  exact ⟨rfl, by show max _ _ * 1000 ≤ v; omega, by show v ≤ min _ _ * 1000; omega⟩
theorem sby_four {al ah bl bh : Int} (z : ¬ (bl ≤ 0 ∧ 0 ≤ bh)) : (sbyR al ah bl bh).2.2 = 0 ∨ (sbyR al ah bl bh).2.2 = 4 := by
  unfold sbyR
  rw [if_neg z]
  rcases fit_cases (mn4 (fl (al * 1000) bl) (fl (al * 1000) bh) (fl (ah * 1000) bl) (fl (ah * 1000) bh)) (mx4 (ce (al * 1000) bl) (ce (al * 1000) bh) (ce (ah * 1000) bl) (ce (ah * 1000) bh)) with e | ⟨e, -, -⟩
  · right; rw [e]
  · left; rw [e]
theorem back_parts {xl xh cl ch yl yh x y : Int} (h1 : xl ≤ x) (h2 : x ≤ xh) (h3 : cl * 1000 ≤ x * y) (h4 : x * y ≤ ch * 1000) (h5 : yl ≤ y) (h6 : y ≤ yh) :
    ((backR xl xh cl ch yl yh).2.2 = 0 ∨ (backR xl xh cl ch yl yh).2.2 = 4) ∧ ((backR xl xh cl ch yl yh).2.2 = 0 → (backR xl xh cl ch yl yh).1 ≤ x ∧ x ≤ (backR xl xh cl ch yl yh).2.1) := by
  unfold backR
  by_cases z : yl ≤ 0 ∧ 0 ≤ yh
  · rw [if_pos z]; exact ⟨.inl rfl, fun _ => ⟨h1, h2⟩⟩
  · rw [if_neg z]
    by_cases u : (sbyR cl ch yl yh).2.2 = 0
    · rw [if_pos u]
      have k := sby_parts (V := x * y) (W := y) (K := x) (D1 := 1000) (D2 := 1) (by decide) (by decide) h3 h4 (by omega) (by omega) (by omega) (by omega) u
      have m := meet_keeps h1 h2 k.1 k.2
      exact ⟨.inl m.1, fun _ => m.2⟩
    · rw [if_neg u]
      exact ⟨.inr ((sby_four z).resolve_left u), fun h => absurd h u⟩
theorem ntimes_parts {xl xh yl yh zl zh a b : Int} (h1 : xl ≤ a) (h2 : a ≤ xh) (h3 : yl ≤ b) (h4 : b ≤ yh) (h5 : zl * 1000 ≤ a * b) (h6 : a * b ≤ zh * 1000) :
    ((ntimesR xl xh yl yh zl zh).2.2.2 = 0 ∨ (ntimesR xl xh yl yh zl zh).2.2.2 = 4) ∧ ((ntimesR xl xh yl yh zl zh).2.2.2 = 0 → ((ntimesR xl xh yl yh zl zh).1.1 ≤ a ∧ a ≤ (ntimesR xl xh yl yh zl zh).1.2) ∧ ((ntimesR xl xh yl yh zl zh).2.1.1 ≤ b ∧ b ≤ (ntimesR xl xh yl yh zl zh).2.1.2) ∧ ((ntimesR xl xh yl yh zl zh).2.2.1.1 * 1000 ≤ a * b ∧ a * b ≤ (ntimesR xl xh yl yh zl zh).2.2.1.2 * 1000)) := by
  obtain ⟨T, eT⟩ : ∃ T, stimesR xl xh yl yh = T := ⟨_, rfl⟩
  obtain ⟨C, eC⟩ : ∃ C, meetR zl zh T.1 T.2.1 = C := ⟨_, rfl⟩
  obtain ⟨A, eA⟩ : ∃ A, backR xl xh C.1 C.2.1 yl yh = A := ⟨_, rfl⟩
  obtain ⟨B, eB⟩ : ∃ B, backR yl yh C.1 C.2.1 A.1 A.2.1 = B := ⟨_, rfl⟩
  rw [ntimes_is eT eC eA eB]
  by_cases t : T.2.2 = 0
  · rw [if_pos t]
    obtain ⟨_, _, kt1, kt2⟩ := stimes_has h1 h2 h3 h4 (by rw [eT]; exact t)
    rw [eT] at kt1 kt2
    have kc := meet_parts h5 h6 kt1 kt2
    rw [eC] at kc
    rw [if_pos kc.1]
    have ka := back_parts h1 h2 kc.2.1 kc.2.2 h3 h4
    rw [eA] at ka
    by_cases a0 : A.2.2 = 0
    · rw [if_pos a0]
      have k2 := ka.2 a0
      have kb := back_parts (x := b) (y := a) h3 h4 (by rw [Int.mul_comm b a]; exact kc.2.1) (by rw [Int.mul_comm b a]; exact kc.2.2) k2.1 k2.2
      rw [eB] at kb
      by_cases b0 : B.2.2 = 0
      · rw [if_pos b0]
        exact ⟨.inl rfl, fun _ => ⟨k2, kb.2 b0, kc.2⟩⟩
      · rw [if_neg b0]; exact ⟨.inr (kb.1.resolve_left b0), fun h => absurd h b0⟩
    · rw [if_neg a0]; exact ⟨.inr (ka.1.resolve_left a0), fun h => absurd h a0⟩
  · rw [if_neg t]
    have f := stimes_fault xl xh yl yh
    rw [eT] at f
    refine ⟨.inr ?_, fun h => absurd h t⟩
    show T.2.2 = 4
    rw [f.resolve_left t]
/-- The polynomial that is one product. -/
def one2 : List Tm := [(1000, 1, 1, 0)]
theorem one2_ex (a b : Int) : exS one2 [a, b] 1 = a * b * 1000000 := by
  have e : exS one2 [a, b] 1 = 0 + (1000 * a ^ 1) * b ^ 1 * 1000 ^ 1 := rfl
  rw [e, Int.pow_one, Int.pow_one, Int.pow_one]
  grind
theorem one2_form : formF one2 2 = 0 := by decide
theorem fl_parts (v : Int) : fl (v * 1000000) 1000000000 = fl v 1000 := by
  have s := fl_spec_pos (n := v * 1000000) (d := 1000000000) (by decide)
  have t := fl_spec_pos (n := v) (d := 1000) (by decide)
  omega
theorem one2_at {a b : Int} (ha1 : -20000 ≤ a) (ha2 : a ≤ 20000) (hb1 : -20000 ≤ b) (hb2 : b ≤ 20000) : atAll one2 [a, b] = (fl (a * b) 1000, 0) := by
  have n0 : numsF [a, b] = 0 := nums_ok.2 fun i hi => by
    rcases (by simp at hi; omega : i = 0 ∨ i = 1) with rfl | rfl
    · exact ⟨ha1, ha2⟩
    · exact ⟨hb1, hb2⟩
  have c : atF one2 [a, b] = 0 := at_ok.2 ⟨one2_form, n0⟩
  have hb : bysP one2 := fun i hi => by
    obtain rfl : i = 0 := by simp [one2] at hi; omega
    exact ⟨by decide, by decide⟩
  have e : exS one2 [a, b] one2.length = a * b * 1000000 := one2_ex a b
  obtain ⟨p1, p2⟩ := mul_by (A := 20000) (B := 20000) ha1 ha2 hb1 hb2 (by decide)
  have t := fl_spec_pos (n := a * b) (d := 1000) (by decide)
  have hm : may (fl (exS one2 [a, b] one2.length) 1000000000) = true := by
    rw [e, fl_parts]
    exact (may_iff _).2 ⟨by omega, by omega⟩
  unfold atAll
  rw [if_pos c, pt_yes hb hm, e, fl_parts]
/-- Numbers of a box, their product out of the range: what narrowing tells. -/
theorem top_narrow {xl xh yl yh a b : Int} (hS : (frAll one2 [(xl, xh), (yl, yh)]).2.2 = 0) (h1 : xl ≤ a) (h2 : a ≤ xh) (h3 : yl ≤ b) (h4 : b ≤ yh) :
    ((frAll one2 [(xl, xh), (yl, yh)]).1 ≤ fl (a * b) 1000 ∧ fl (a * b) 1000 ≤ (frAll one2 [(xl, xh), (yl, yh)]).2.1) ∧
    (let N := ntimesAll xl xh yl yh (frAll one2 [(xl, xh), (yl, yh)]).1 (frAll one2 [(xl, xh), (yl, yh)]).2.1
     (N.2.2.2 = 0 ∨ N.2.2.2 = 4) ∧ (N.2.2.2 = 0 → (N.1.1 ≤ a ∧ a ≤ N.1.2) ∧ (N.2.1.1 ≤ b ∧ b ≤ N.2.1.2) ∧ (N.2.2.1.1 ≤ fl (a * b) 1000 ∧ fl (a * b) 1000 ≤ N.2.2.1.2))) := by
  have hx : hasP [(xl, xh), (yl, yh)] [a, b] := fun i hi => by
    rcases (by simp at hi; omega : i = 0 ∨ i = 1) with rfl | rfl
    · exact ⟨h1, h2⟩
    · exact ⟨h3, h4⟩
  have k := fr_has (x := [a, b]) rfl hx hS
  have e : exS one2 [a, b] one2.length = a * b * 1000000 := one2_ex a b
  rw [e, fl_parts] at k
  obtain ⟨g0, g1, g2⟩ := fr_good hS
  obtain ⟨gb, gf⟩ := fr_ok.1 g0
  obtain ⟨s1, s2⟩ := sum_has (fr_terms gf) gb hx rfl (Nat.le_refl _) g2
  rw [e] at s1 s2
  have gc := sum_chk (fr_terms gf) gb (Nat.le_refl _) g2
  have hs := (box_ok.1 gb).2.2
  have cx : chk xl xh = 0 := hs (xl, xh) (by simp)
  have cy : chk yl yh = 0 := hs (yl, yh) (by simp)
  refine ⟨k, ?_⟩
  have t := fl_spec_pos (n := a * b) (d := 1000) (by decide)
  show _ ∧ _
  rw [g1]
  have gc' : chk (frR one2 [(xl, xh), (yl, yh)]).1 (frR one2 [(xl, xh), (yl, yh)]).2.1 = 0 := gc
  rw [ntimesAll_yes (nar_ok.2 ⟨cx, cy, gc'⟩)]
  have s1' : (frR one2 [(xl, xh), (yl, yh)]).1 * 1000 ≤ a * b := by unfold frR; omega
  have s2' : a * b ≤ (frR one2 [(xl, xh), (yl, yh)]).2.1 * 1000 := by unfold frR; omega
  obtain ⟨p1, p2⟩ := ntimes_parts h1 h2 h3 h4 s1' s2'
  refine ⟨p1, fun h => ?_⟩
  obtain ⟨q1, q2, q3, q4⟩ := p2 h
  exact ⟨q1, q2, by omega, by omega⟩
end Um
