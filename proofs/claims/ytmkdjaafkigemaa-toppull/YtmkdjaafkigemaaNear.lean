/-
  What package near answers: Steep, Bound, Pull at every argument.
-/
import Derived.Test.YtmkdjaafkigemaaHold
import Derived.Test.YtmkdjaafkigemaaFormR
import Derived.Test.YtmkdjaafkigemaaStepC
import Derived.Test.YtmkdjaafkigemaaPower
import Derived.Test.YtmkdjaafkigemaaMems2
import Derived.Test.YtmkdjaafkigemaaMaths4
import Derived.Test.YtmkdjaafkigemaaMems
import Derived.Lib.MinMax
import Derived.Deep.CutRange
namespace Um
/-- How far from 0 the range of what it changes by is, of one unknown. -/
def farBy (f : List Tm) (b : List (Int × Int)) (k : Nat) : Int × Int := if (steepN f k f.length).2 = 0 then (if (frR (steepN f k f.length).1 b).2.2 = 0 then ((farR (frR (steepN f k f.length).1 b).1 (frR (steepN f k f.length).1 b).2.1).2, 0) else (0, 4)) else (0, 4)
theorem farBy_steep {f : List Tm} {b : List (Int × Int)} {k : Nat} (h : ¬ (steepN f k f.length).2 = 0) : farBy f b k = (0, 4) := by unfold farBy; rw [if_neg h]
theorem farBy_range {f : List Tm} {b : List (Int × Int)} {k : Nat} (h : (steepN f k f.length).2 = 0) (h2 : ¬ (frR (steepN f k f.length).1 b).2.2 = 0) : farBy f b k = (0, 4) := by unfold farBy; rw [if_pos h, if_neg h2]
theorem farBy_yes {f : List Tm} {b : List (Int × Int)} {k : Nat} (h : (steepN f k f.length).2 = 0) (h2 : (frR (steepN f k f.length).1 b).2.2 = 0) : farBy f b k = ((farR (frR (steepN f k f.length).1 b).1 (frR (steepN f k f.length).1 b).2.1).2, 0) := by unfold farBy; rw [if_pos h, if_pos h2]
theorem farBy_fault (f : List Tm) (b : List (Int × Int)) (k : Nat) : (farBy f b k).2 = 0 ∨ farBy f b k = (0, 4) := by
  unfold farBy
  repeat' split
  all_goals first | exact .inl rfl | exact .inr rfl
theorem bsum_by (f : List Tm) (b : List (Int × Int)) (k : Nat) : bsum f b (k + 1) = if (bsum f b k).2 = 0 then (if (farBy f b k).2 = 0 then ((bsum f b k).1 + (farBy f b k).1, 0) else (0, 4)) else (0, 4) := by
  rw [bsum_succ]
  by_cases h : (steepN f k f.length).2 = 0
  · by_cases h2 : (frR (steepN f k f.length).1 b).2.2 = 0
    · rw [farBy_yes h h2, if_pos h, if_pos h2]; rfl
    · rw [farBy_range h h2, if_pos h, if_neg h2, if_neg (show ¬ ((0 : Int), (4 : Int)).2 = 0 by decide)]
  · rw [farBy_steep h, if_neg h, if_neg (show ¬ ((0 : Int), (4 : Int)).2 = 0 by decide)]
theorem bsum_next {f : List Tm} {b : List (Int × Int)} {k : Nat} (h : (bsum f b k).2 = 0) (h2 : (farBy f b k).2 = 0) : bsum f b (k + 1) = ((bsum f b k).1 + (farBy f b k).1, 0) := by rw [bsum_by, if_pos h, if_pos h2]
theorem bsum_halt {f : List Tm} {b : List (Int × Int)} {k : Nat} (hk : k < b.length) (h2 : ¬ (farBy f b k).2 = 0) : bsum f b b.length = (0, 4) := by
  have e : bsum f b (k + 1) = (0, 4) := by
    rw [bsum_by]
    by_cases h : (bsum f b k).2 = 0
    · rw [if_pos h, if_neg h2]
    · rw [if_neg h]
  exact bsum_stay (k := k + 1) (by rw [e]; decide) hk
theorem farBy_small {f : List Tm} {b : List (Int × Int)} {k : Nat} (hf : formF f b.length = 0) (hb : boxF b = 0) : 0 ≤ (farBy f b k).1 ∧ (farBy f b k).1 ≤ 1000000000 := by
  by_cases h : (steepN f k f.length).2 = 0
  · by_cases h2 : (frR (steepN f k f.length).1 b).2.2 = 0
    · rw [farBy_yes h h2]
      exact far_small (sum_chk (fr_terms (steep_form hf h)) hb (Nat.le_refl _) h2)
    · rw [farBy_range h h2]; exact ⟨by decide, by decide⟩
  · rw [farBy_steep h]; exact ⟨by decide, by decide⟩
/-- How much a polynomial changes at most, by all unknowns together. -/
def sumR (f : List Tm) (b : List (Int × Int)) : Int × Int := if (bsum f b b.length).2 = 0 then (if may (bsum f b b.length).1 = true then ((bsum f b b.length).1, 0) else (0, 4)) else (0, 4)
theorem sumR_yes {f : List Tm} {b : List (Int × Int)} (h : (bsum f b b.length).2 = 0) (h2 : may (bsum f b b.length).1 = true) : sumR f b = ((bsum f b b.length).1, 0) := by unfold sumR; rw [if_pos h, if_pos h2]
theorem sumR_full {f : List Tm} {b : List (Int × Int)} (h2 : ¬ may (bsum f b b.length).1 = true) : sumR f b = (0, 4) := by
  unfold sumR
  rw [if_neg h2]
  split <;> rfl
theorem sumR_not {f : List Tm} {b : List (Int × Int)} (h : ¬ (bsum f b b.length).2 = 0) : sumR f b = (0, 4) := by unfold sumR; rw [if_neg h]
theorem sumR_fault (f : List Tm) (b : List (Int × Int)) : (sumR f b).2 = 0 ∨ sumR f b = (0, 4) := by
  unfold sumR
  repeat' split
  all_goals first | exact .inl rfl | exact .inr rfl
theorem bnd_by (s : List (List Tm)) (b : List (Int × Int)) (i : Nat) : bndN s b (i + 1) = if (bndN s b i).2 = 0 then (if (sumR (nx s i) b).2 = 0 then (max (bndN s b i).1 (sumR (nx s i) b).1, 0) else (0, 4)) else (0, 4) := by
  rw [bndN_succ]
  by_cases h : (bsum (nx s i) b b.length).2 = 0
  · by_cases h2 : may (bsum (nx s i) b b.length).1 = true
    · rw [sumR_yes h h2, if_pos h, if_pos h2]; rfl
    · rw [sumR_full h2, if_pos h, if_neg h2, if_neg (show ¬ ((0 : Int), (4 : Int)).2 = 0 by decide)]
  · rw [sumR_not h, if_neg h, if_neg (show ¬ ((0 : Int), (4 : Int)).2 = 0 by decide)]
theorem bnd_next {s : List (List Tm)} {b : List (Int × Int)} {i : Nat} (h : (bndN s b i).2 = 0) (h2 : (sumR (nx s i) b).2 = 0) : bndN s b (i + 1) = (max (bndN s b i).1 (sumR (nx s i) b).1, 0) := by rw [bnd_by, if_pos h, if_pos h2]
theorem bnd_halt {s : List (List Tm)} {b : List (Int × Int)} {i : Nat} (hi : i < s.length) (h2 : ¬ (sumR (nx s i) b).2 = 0) : bndN s b s.length = (0, 4) := by
  have e : bndN s b (i + 1) = (0, 4) := by
    rw [bnd_by]
    by_cases h : (bndN s b i).2 = 0
    · rw [if_pos h, if_neg h2]
    · rw [if_neg h]
  exact bndN_stay (i := i + 1) (by rw [e]; decide) hi
end Um
namespace Go.Proofs.Ytmkdjaafkigemaa
set_option linter.unusedSimpArgs false
open Go.RowKit

theorem near_terms : (Try.prog.info? 29).map (fun i => (i.zero, i.size, i.bytes)) = some (some (.agg #[.int .i64 0, .int .i64 0, .int .i64 0, .int .i64 0]), 4, 32) := by kernel_rfl
theorem near_four (w : World) (a b c d : Value) (t : TypeId) : ∀ j u, [a, b, c, d][j]? = some u → (w.alloc (.cells #[a, b, c, d] t)).cell? ((⟨w.heap.size, 0, none⟩ : Addr).add j) = some u := by
  intro j u hj
  match j, hj with
  | 0, hj => simp at hj; subst hj; simp [Addr.add]
  | 1, hj => simp at hj; subst hj; simp [Addr.add]
  | 2, hj => simp at hj; subst hj; simp [Addr.add]
  | 3, hj => simp at hj; subst hj; simp [Addr.add]
  | k + 4, hj => simp at hj

set_option maxRecDepth 100000 in
set_option maxHeartbeats 8000000 in
theorem nrSteep_form (f : List Um.Tm) (u : Value) (sides k : Int) (w : World) (hl : Lt w.heap.size w u f) (h : ¬ Um.formF f sides = 0) :
    Calls Try.prog 13 #[u, .int .i64 sides, .int .i64 k] w fun e w' => ∃ r, e = .returned (.tuple #[r, errV (([], Um.formF f sides) : List Um.Tm × Int).2]) ∧ Lt w'.heap.size w' r (([], Um.formF f sides) : List Um.Tm × Int).1 ∧ Below w.heap.size w w' := by
  have ve := errV_none
  have q1 := errG
  have q2 := errGn
  have q3 := errE
  have q4 := errN
  obtain ⟨a0, cap0, rfl, -⟩ := (id hl)
  have HFC := fun w hl => hid (fcheck_any f sides (.slice a0 f.length cap0) w hl)
  have kF : (Um.formF f sides != 0) = true := by simpa using h
  clear h
  generalize Um.formF f sides = G at *
  go_enter Try.func13, Try.ntmps13
  go_wp2_with (go_at_call 28; refine (HFC _ hl).out.mono ?_; rintro e wn ⟨rfl, hb⟩; have hBW := hb; clear HFC hb)
  go_returns
  exact ⟨_, rfl, Lt.nil _ _, hBW⟩

set_option maxRecDepth 100000 in
set_option maxHeartbeats 8000000 in
theorem nrSteep_range (f : List Um.Tm) (u : Value) (sides k : Int) (w : World) (hl : Lt w.heap.size w u f) (h : Um.formF f sides = 0) (h2 : ¬ (0 ≤ k ∧ k < sides)) :
    Calls Try.prog 13 #[u, .int .i64 sides, .int .i64 k] w fun e w' => ∃ r, e = .returned (.tuple #[r, errV (([], 1) : List Um.Tm × Int).2]) ∧ Lt w'.heap.size w' r (([], 1) : List Um.Tm × Int).1 ∧ Below w.heap.size w w' := by
  have ve := errV_none
  have q1 := errG
  have q2 := errGn
  have q3 := errE
  have q4 := errN
  obtain ⟨a0, cap0, rfl, -⟩ := (id hl)
  have HFC := fun w hl => hid (fcheck_any f sides (.slice a0 f.length cap0) w hl)
  have kF : (Um.formF f sides != 0) = false := by simpa using h
  clear h
  generalize Um.formF f sides = G at *
  by_cases h0 : k < 0
  · have d0 : decide (k < 0) = true := decide_eq_true h0
    clear h2 h0
    go_enter Try.func13, Try.ntmps13
    go_wp2_with (go_at_call 28; refine (HFC _ hl).out.mono ?_; rintro e wn ⟨rfl, hb⟩; have hBW := hb; clear HFC hb)
    go_returns
    exact ⟨_, rfl, Lt.nil _ _, hBW⟩
  · have d0 : decide (k < 0) = false := decide_eq_false h0
    have d1 : decide (sides ≤ k) = true := decide_eq_true (by omega)
    clear h2 h0
    go_enter Try.func13, Try.ntmps13
    go_wp2_with (go_at_call 28; refine (HFC _ hl).out.mono ?_; rintro e wn ⟨rfl, hb⟩; have hBW := hb; clear HFC hb)
    go_returns
    exact ⟨_, rfl, Lt.nil _ _, hBW⟩

set_option maxRecDepth 100000 in
set_option maxHeartbeats 8000000 in
theorem nrSteep_0 (f : List Um.Tm) (u : Value) (sides : Int) (w : World) (hl : Lt w.heap.size w u f) (h : Um.formF f sides = 0) (hk : 0 < sides) (h0 : f ≠ []) :
    Calls Try.prog 13 #[u, .int .i64 sides, .int .i64 0] w fun e w' => ∃ r, e = .returned (.tuple #[r, errV (Um.steepN f 0 f.length).2]) ∧ Lt w'.heap.size w' r (Um.steepN f 0 f.length).1 ∧ Below w.heap.size w w' := by
  have ve := errV_none
  have q1 := errG
  have q2 := errGn
  have q3 := errE
  have q4 := errN
  obtain ⟨i0, hi0, hz0, hz1, hz2⟩ := info_parts near_terms
  have hf := fun i hi => (Um.form_both h i hi).1
  have h6 := (Um.form_ok.1 h).2.1
  obtain ⟨b, off, cap, rfl, -, hA0⟩ := (id hl).open h0
  have HFC := fun w hl => hid (fcheck_any f sides (.slice (some ⟨b, off, none⟩) f.length cap) w hl)
  have kF : (Um.formF f sides != 0) = false := by simpa using h
  have d1 : decide (sides ≤ 0) = false := decide_eq_false (by omega)
  clear h hk h0
  generalize Um.formF f sides = G at *
  go_enter Try.func13, Try.ntmps13
  go_wp2_with (go_at_call 28; refine (HFC _ hl).out.mono ?_; rintro e wn ⟨rfl, hb⟩; have hBW := hb; replace hA0 := hA0.step hb; clear HFC hb hl)
  go_loopw [9, 29] (fun u i wr => ∃ j : Nat, j ≤ f.length ∧ i = .int .i64 j ∧ wr.ownsRow wn.heap.size 29 4 u (Um.steepN f 0 j).1.length (cellsT (Um.steepN f 0 j).1) ∧ Below wn.heap.size wn wr ∧ Hid ((Um.steepN f 0 j).2 = 0)) (fun _ i _ => f.length - (intOf i).toNat)
  case atStart => exact ⟨0, Nat.zero_le _, rfl, World.ownsRow_nil _ _ _ _, Below.refl _ _, rfl⟩
  case round =>
    obtain ⟨j, hj, rfl, hown, hBe, hZ⟩ := hrel
    by_cases hjl : j < f.length
    · have hjj : (j : Int) < (f.length : Int) := by omega
      obtain ⟨c0, c1, c2, c3⟩ := (hA0.step hBe).2 j hjl
      have HP := hid (hf j hjl)
      have HSK := fun h2 => hid (Um.steep_skip (k := 0) hZ.out h2)
      have HMO := fun h2 h3 => hid (Um.steep_more (k := 0) hZ.out h2 h3)
      have HFU := fun h2 h3 => hid (Um.steep_full (k := 0) hjl hZ.out h2 h3)
      have hln := Um.steep_len f 0 j
      clear hA0
      generalize Um.tm f j = t at *
      obtain ⟨t0, t1, t2, t3⟩ := t
      simp only at c0 c1 c2 c3
      have HO := hid (hown.alloc (.cells #[.int .i64 t0, .int .i64 t1, .int .i64 t2, .int .i64 t3] 29))
      have HBE := hid (hBe.alloc hBe.size (.cells #[.int .i64 t0, .int .i64 t1, .int .i64 t2, .int .i64 t3] 29))
      have HB := hid (Blk.new wr 29 #[.int .i64 t0, .int .i64 t1, .int .i64 t2, .int .i64 t3])
      have hsz := hBe.size
      by_cases ht : t1 = 0
      · have ct : (t1 == 0) = true := by simpa using ht
        have HM := HSK ht
        clear HSK HMO HFU HP ht hown hBe HB
        go_wp2
        exact ⟨⟨j + 1, by omega, by simp, by rw [HM.out]; exact HO.out, HBE.out, by rw [HM.out]; exact hZ⟩, by simp [intOf]; omega⟩
      · have ct : (t1 == 0) = false := by simpa using ht
        have HWR : Hid (IntKind.i64.wrap (t0 * t1) = t0 * t1 ∧ -3000000000 ≤ t0 * t1 ∧ t0 * t1 ≤ 3000000000 ∧ 0 < t1 ∧ t1 ≤ 3) := hid (by
          have q := HP.out
          have q2 := Um.tm_times q 0
          obtain ⟨m1, m2⟩ := (Um.may_iff _).1 q.1
          have q3 : 0 ≤ t1 ∧ t1 ≤ 3 := q2
          obtain ⟨p1, p2⟩ := Um.mul_by (A := 1000000000) (B := 3) (a := t0) (b := t1) (by omega) (by omega) (by omega) (by omega) (by decide)
          refine ⟨by rw [IntKind.wrap_i64]; omega, by omega, by omega, by omega, by omega⟩)
        have HBW := hid ((Below.refl wr.heap.size wr).alloc (Nat.le_refl _) (.cells #[.int .i64 t0, .int .i64 t1, .int .i64 t2, .int .i64 t3] 29))
        have HMB := fun w => hid (mayBe_any (t0 * t1) w)
        have hw := HWR.out.1
        clear HP HO HBE
        go_upto_region 12 with fail
        generalize wr.alloc (.cells #[.int .i64 t0, .int .i64 t1, .int .i64 t2, .int .i64 t3] 29) = W at *
        generalize hTB' : wr.heap.size = TB at HB ⊢
        have HTB : Hid (wr.heap.size ≤ TB) := hid (Nat.le_of_eq hTB')
        clear hTB' c0 c1 c2 c3 ct
        have z0 := HB.out.cell 0 rfl
        have yf := HB.out.free 0
        go_upto_region 13 with fail
        have HY := hid (Blk.set (w := W) HB.out 0 (.int .i64 (t0 * t1)) (cs' := #[.int .i64 (t0 * t1), .int .i64 t1, .int .i64 t2, .int .i64 t3]) rfl)
        have HV := hid (HBW.out.setCell (p := ⟨TB, 0, none⟩) HTB.out (.int .i64 (t0 * t1)))
        clear z0 yf HB HBW hw
        generalize W.setCell ⟨TB, 0, none⟩ (.int .i64 (t0 * t1)) = W2 at *
        have z0 := HY.out.cell 0 rfl
        by_cases hm : Um.may (t0 * t1) = true
        · have HM := HMO ht hm
          have cm : Um.may (t0 * t1) = true := hm
          clear HMO HFU HSK ht hm
          have z1 := HY.out.cell 1 rfl
          have y1 := HY.out.free 1
          have hw8 : IntKind.i64.wrap (t1 - 1) = t1 - 1 := by have := HWR.out; rw [IntKind.wrap_i64]; omega
          go_upto_region 16 with (go_at_call 27; refine (HMB _).out.mono ?_; rintro e wm ⟨rfl, hq⟩; subst wm; clear HMB)
          have HY3 := hid (HY.out.set 1 (.int .i64 (t1 - 1)) (cs' := #[.int .i64 (t0 * t1), .int .i64 (t1 - 1), .int .i64 t2, .int .i64 t3]) rfl)
          have HV3 := hid (HV.out.setCell (p := ⟨TB, 1, none⟩) HTB.out (.int .i64 (t1 - 1)))
          clear z0 z1 y1 HY HV hw8
          generalize W2.setCell ⟨TB, 1, none⟩ (.int .i64 (t1 - 1)) = W3 at *
          have z0 := HY3.out.cell 0 rfl
          have z1 := HY3.out.cell 1 rfl
          have z2 := HY3.out.cell 2 rfl
          have z3 := HY3.out.cell 3 rfl
          have hown3 := owns_keep hown HV3.out
          have HBE := hid (hBe.trans (HV3.out.mono hBe.size))
          have hsz3 := HBE.out.size
          have HO := hid hown3
          clear hown HV3 HY3 HTB hBe
          go_wp2_with (at_builtin; refine wpList_append_own _ rfl _ _ 30 rfl wn.heap.size 29 i0 (.agg #[.int .i64 0, .int .i64 0, .int .i64 0, .int .i64 0]) 4 32 Try.underlying30 hi0 hz0 hz1 hz2 rfl (by decide) _ _ _ rfl (hown3.alloc _) _ 1 1 [.int .i64 (t0 * t1), .int .i64 (t1 - 1), .int .i64 (t2), .int .i64 (t3)] rfl rfl (near_four _ _ _ _ _ _) (by simp [Value.oneCell']) (by unfold maxLen; omega) (by omega) (by simp; omega) ?_; intro v' w1 hown' hgrow _)
          have HN := hid hown'
          have hb2 := (Below.refl wn.heap.size (W3.alloc (.cells #[.int .i64 (t0 * t1), .int .i64 (t1 - 1), .int .i64 t2, .int .i64 t3] 29))).grown hgrow (by simp; omega) (fun j e => owns_from HO.out j e)
          exact ⟨⟨j + 1, by omega, by simp, by rw [HM.out, cellsT_append, List.length_append]; exact HN.out, (HBE.out.alloc hsz3 _).trans hb2, by rw [HM.out]; exact hid rfl⟩, by simp [intOf]; omega⟩
        · have HM := HFU ht hm
          have cm : Um.may (t0 * t1) = false := by simpa using hm
          clear HMO HFU HSK ht hm
          have HBE := hid (hBe.trans (HV.out.mono hBe.size))
          go_wp2_with (go_at_call 27; refine (HMB _).out.mono ?_; rintro e wm ⟨rfl, hq⟩; subst wm; clear HMB)
          go_returns
          exact ⟨_, by rw [HM.out]; rfl, by rw [HM.out]; exact Lt.nil _ _, hBW.trans (HBE.out.mono hBW.size)⟩
    · obtain rfl : j = f.length := by omega
      have HQ := hid hown
      have HZ := hid hZ.out
      clear hown hf hA0
      go_wp2
      go_returns
      exact ⟨_, by rw [HZ.out]; rfl, lt_owns HQ.out, hBW.trans (hBe.mono hBW.size)⟩

set_option maxRecDepth 100000 in
set_option maxHeartbeats 8000000 in
theorem nrSteep_1 (f : List Um.Tm) (u : Value) (sides : Int) (w : World) (hl : Lt w.heap.size w u f) (h : Um.formF f sides = 0) (hk : 1 < sides) (h0 : f ≠ []) :
    Calls Try.prog 13 #[u, .int .i64 sides, .int .i64 1] w fun e w' => ∃ r, e = .returned (.tuple #[r, errV (Um.steepN f 1 f.length).2]) ∧ Lt w'.heap.size w' r (Um.steepN f 1 f.length).1 ∧ Below w.heap.size w w' := by
  have ve := errV_none
  have q1 := errG
  have q2 := errGn
  have q3 := errE
  have q4 := errN
  obtain ⟨i0, hi0, hz0, hz1, hz2⟩ := info_parts near_terms
  have hf := fun i hi => (Um.form_both h i hi).1
  have h6 := (Um.form_ok.1 h).2.1
  obtain ⟨b, off, cap, rfl, -, hA0⟩ := (id hl).open h0
  have HFC := fun w hl => hid (fcheck_any f sides (.slice (some ⟨b, off, none⟩) f.length cap) w hl)
  have kF : (Um.formF f sides != 0) = false := by simpa using h
  have d1 : decide (sides ≤ 1) = false := decide_eq_false (by omega)
  clear h hk h0
  generalize Um.formF f sides = G at *
  go_enter Try.func13, Try.ntmps13
  go_wp2_with (go_at_call 28; refine (HFC _ hl).out.mono ?_; rintro e wn ⟨rfl, hb⟩; have hBW := hb; replace hA0 := hA0.step hb; clear HFC hb hl)
  go_loopw [9, 29] (fun u i wr => ∃ j : Nat, j ≤ f.length ∧ i = .int .i64 j ∧ wr.ownsRow wn.heap.size 29 4 u (Um.steepN f 1 j).1.length (cellsT (Um.steepN f 1 j).1) ∧ Below wn.heap.size wn wr ∧ Hid ((Um.steepN f 1 j).2 = 0)) (fun _ i _ => f.length - (intOf i).toNat)
  case atStart => exact ⟨0, Nat.zero_le _, rfl, World.ownsRow_nil _ _ _ _, Below.refl _ _, rfl⟩
  case round =>
    obtain ⟨j, hj, rfl, hown, hBe, hZ⟩ := hrel
    by_cases hjl : j < f.length
    · have hjj : (j : Int) < (f.length : Int) := by omega
      obtain ⟨c0, c1, c2, c3⟩ := (hA0.step hBe).2 j hjl
      have HP := hid (hf j hjl)
      have HSK := fun h2 => hid (Um.steep_skip (k := 1) hZ.out h2)
      have HMO := fun h2 h3 => hid (Um.steep_more (k := 1) hZ.out h2 h3)
      have HFU := fun h2 h3 => hid (Um.steep_full (k := 1) hjl hZ.out h2 h3)
      have hln := Um.steep_len f 1 j
      clear hA0
      generalize Um.tm f j = t at *
      obtain ⟨t0, t1, t2, t3⟩ := t
      simp only at c0 c1 c2 c3
      have HO := hid (hown.alloc (.cells #[.int .i64 t0, .int .i64 t1, .int .i64 t2, .int .i64 t3] 29))
      have HBE := hid (hBe.alloc hBe.size (.cells #[.int .i64 t0, .int .i64 t1, .int .i64 t2, .int .i64 t3] 29))
      have HB := hid (Blk.new wr 29 #[.int .i64 t0, .int .i64 t1, .int .i64 t2, .int .i64 t3])
      have hsz := hBe.size
      by_cases ht : t2 = 0
      · have ct : (t2 == 0) = true := by simpa using ht
        have HM := HSK ht
        clear HSK HMO HFU HP ht hown hBe HB
        go_wp2
        exact ⟨⟨j + 1, by omega, by simp, by rw [HM.out]; exact HO.out, HBE.out, by rw [HM.out]; exact hZ⟩, by simp [intOf]; omega⟩
      · have ct : (t2 == 0) = false := by simpa using ht
        have HWR : Hid (IntKind.i64.wrap (t0 * t2) = t0 * t2 ∧ -3000000000 ≤ t0 * t2 ∧ t0 * t2 ≤ 3000000000 ∧ 0 < t2 ∧ t2 ≤ 3) := hid (by
          have q := HP.out
          have q2 := Um.tm_times q 1
          obtain ⟨m1, m2⟩ := (Um.may_iff _).1 q.1
          have q3 : 0 ≤ t2 ∧ t2 ≤ 3 := q2
          obtain ⟨p1, p2⟩ := Um.mul_by (A := 1000000000) (B := 3) (a := t0) (b := t2) (by omega) (by omega) (by omega) (by omega) (by decide)
          refine ⟨by rw [IntKind.wrap_i64]; omega, by omega, by omega, by omega, by omega⟩)
        have HBW := hid ((Below.refl wr.heap.size wr).alloc (Nat.le_refl _) (.cells #[.int .i64 t0, .int .i64 t1, .int .i64 t2, .int .i64 t3] 29))
        have HMB := fun w => hid (mayBe_any (t0 * t2) w)
        have hw := HWR.out.1
        clear HP HO HBE
        go_upto_region 12 with fail
        generalize wr.alloc (.cells #[.int .i64 t0, .int .i64 t1, .int .i64 t2, .int .i64 t3] 29) = W at *
        generalize hTB' : wr.heap.size = TB at HB ⊢
        have HTB : Hid (wr.heap.size ≤ TB) := hid (Nat.le_of_eq hTB')
        clear hTB' c0 c1 c2 c3 ct
        have z0 := HB.out.cell 0 rfl
        have yf := HB.out.free 0
        go_upto_region 13 with fail
        have HY := hid (Blk.set (w := W) HB.out 0 (.int .i64 (t0 * t2)) (cs' := #[.int .i64 (t0 * t2), .int .i64 t1, .int .i64 t2, .int .i64 t3]) rfl)
        have HV := hid (HBW.out.setCell (p := ⟨TB, 0, none⟩) HTB.out (.int .i64 (t0 * t2)))
        clear z0 yf HB HBW hw
        generalize W.setCell ⟨TB, 0, none⟩ (.int .i64 (t0 * t2)) = W2 at *
        have z0 := HY.out.cell 0 rfl
        by_cases hm : Um.may (t0 * t2) = true
        · have HM := HMO ht hm
          have cm : Um.may (t0 * t2) = true := hm
          clear HMO HFU HSK ht hm
          have z1 := HY.out.cell 2 rfl
          have y1 := HY.out.free 2
          have hw8 : IntKind.i64.wrap (t2 - 1) = t2 - 1 := by have := HWR.out; rw [IntKind.wrap_i64]; omega
          go_upto_region 16 with (go_at_call 27; refine (HMB _).out.mono ?_; rintro e wm ⟨rfl, hq⟩; subst wm; clear HMB)
          have HY3 := hid (HY.out.set 2 (.int .i64 (t2 - 1)) (cs' := #[.int .i64 (t0 * t2), .int .i64 t1, .int .i64 (t2 - 1), .int .i64 t3]) rfl)
          have HV3 := hid (HV.out.setCell (p := ⟨TB, 2, none⟩) HTB.out (.int .i64 (t2 - 1)))
          clear z0 z1 y1 HY HV hw8
          generalize W2.setCell ⟨TB, 2, none⟩ (.int .i64 (t2 - 1)) = W3 at *
          have z0 := HY3.out.cell 0 rfl
          have z1 := HY3.out.cell 1 rfl
          have z2 := HY3.out.cell 2 rfl
          have z3 := HY3.out.cell 3 rfl
          have hown3 := owns_keep hown HV3.out
          have HBE := hid (hBe.trans (HV3.out.mono hBe.size))
          have hsz3 := HBE.out.size
          have HO := hid hown3
          clear hown HV3 HY3 HTB hBe
          go_wp2_with (at_builtin; refine wpList_append_own _ rfl _ _ 30 rfl wn.heap.size 29 i0 (.agg #[.int .i64 0, .int .i64 0, .int .i64 0, .int .i64 0]) 4 32 Try.underlying30 hi0 hz0 hz1 hz2 rfl (by decide) _ _ _ rfl (hown3.alloc _) _ 1 1 [.int .i64 (t0 * t2), .int .i64 (t1), .int .i64 (t2 - 1), .int .i64 (t3)] rfl rfl (near_four _ _ _ _ _ _) (by simp [Value.oneCell']) (by unfold maxLen; omega) (by omega) (by simp; omega) ?_; intro v' w1 hown' hgrow _)
          have HN := hid hown'
          have hb2 := (Below.refl wn.heap.size (W3.alloc (.cells #[.int .i64 (t0 * t2), .int .i64 t1, .int .i64 (t2 - 1), .int .i64 t3] 29))).grown hgrow (by simp; omega) (fun j e => owns_from HO.out j e)
          exact ⟨⟨j + 1, by omega, by simp, by rw [HM.out, cellsT_append, List.length_append]; exact HN.out, (HBE.out.alloc hsz3 _).trans hb2, by rw [HM.out]; exact hid rfl⟩, by simp [intOf]; omega⟩
        · have HM := HFU ht hm
          have cm : Um.may (t0 * t2) = false := by simpa using hm
          clear HMO HFU HSK ht hm
          have HBE := hid (hBe.trans (HV.out.mono hBe.size))
          go_wp2_with (go_at_call 27; refine (HMB _).out.mono ?_; rintro e wm ⟨rfl, hq⟩; subst wm; clear HMB)
          go_returns
          exact ⟨_, by rw [HM.out]; rfl, by rw [HM.out]; exact Lt.nil _ _, hBW.trans (HBE.out.mono hBW.size)⟩
    · obtain rfl : j = f.length := by omega
      have HQ := hid hown
      have HZ := hid hZ.out
      clear hown hf hA0
      go_wp2
      go_returns
      exact ⟨_, by rw [HZ.out]; rfl, lt_owns HQ.out, hBW.trans (hBe.mono hBW.size)⟩

set_option maxRecDepth 100000 in
set_option maxHeartbeats 8000000 in
theorem nrSteep_2 (f : List Um.Tm) (u : Value) (sides : Int) (w : World) (hl : Lt w.heap.size w u f) (h : Um.formF f sides = 0) (hk : 2 < sides) (h0 : f ≠ []) :
    Calls Try.prog 13 #[u, .int .i64 sides, .int .i64 2] w fun e w' => ∃ r, e = .returned (.tuple #[r, errV (Um.steepN f 2 f.length).2]) ∧ Lt w'.heap.size w' r (Um.steepN f 2 f.length).1 ∧ Below w.heap.size w w' := by
  have ve := errV_none
  have q1 := errG
  have q2 := errGn
  have q3 := errE
  have q4 := errN
  obtain ⟨i0, hi0, hz0, hz1, hz2⟩ := info_parts near_terms
  have hf := fun i hi => (Um.form_both h i hi).1
  have h6 := (Um.form_ok.1 h).2.1
  obtain ⟨b, off, cap, rfl, -, hA0⟩ := (id hl).open h0
  have HFC := fun w hl => hid (fcheck_any f sides (.slice (some ⟨b, off, none⟩) f.length cap) w hl)
  have kF : (Um.formF f sides != 0) = false := by simpa using h
  have d1 : decide (sides ≤ 2) = false := decide_eq_false (by omega)
  clear h hk h0
  generalize Um.formF f sides = G at *
  go_enter Try.func13, Try.ntmps13
  go_wp2_with (go_at_call 28; refine (HFC _ hl).out.mono ?_; rintro e wn ⟨rfl, hb⟩; have hBW := hb; replace hA0 := hA0.step hb; clear HFC hb hl)
  go_loopw [9, 29] (fun u i wr => ∃ j : Nat, j ≤ f.length ∧ i = .int .i64 j ∧ wr.ownsRow wn.heap.size 29 4 u (Um.steepN f 2 j).1.length (cellsT (Um.steepN f 2 j).1) ∧ Below wn.heap.size wn wr ∧ Hid ((Um.steepN f 2 j).2 = 0)) (fun _ i _ => f.length - (intOf i).toNat)
  case atStart => exact ⟨0, Nat.zero_le _, rfl, World.ownsRow_nil _ _ _ _, Below.refl _ _, rfl⟩
  case round =>
    obtain ⟨j, hj, rfl, hown, hBe, hZ⟩ := hrel
    by_cases hjl : j < f.length
    · have hjj : (j : Int) < (f.length : Int) := by omega
      obtain ⟨c0, c1, c2, c3⟩ := (hA0.step hBe).2 j hjl
      have HP := hid (hf j hjl)
      have HSK := fun h2 => hid (Um.steep_skip (k := 2) hZ.out h2)
      have HMO := fun h2 h3 => hid (Um.steep_more (k := 2) hZ.out h2 h3)
      have HFU := fun h2 h3 => hid (Um.steep_full (k := 2) hjl hZ.out h2 h3)
      have hln := Um.steep_len f 2 j
      clear hA0
      generalize Um.tm f j = t at *
      obtain ⟨t0, t1, t2, t3⟩ := t
      simp only at c0 c1 c2 c3
      have HO := hid (hown.alloc (.cells #[.int .i64 t0, .int .i64 t1, .int .i64 t2, .int .i64 t3] 29))
      have HBE := hid (hBe.alloc hBe.size (.cells #[.int .i64 t0, .int .i64 t1, .int .i64 t2, .int .i64 t3] 29))
      have HB := hid (Blk.new wr 29 #[.int .i64 t0, .int .i64 t1, .int .i64 t2, .int .i64 t3])
      have hsz := hBe.size
      by_cases ht : t3 = 0
      · have ct : (t3 == 0) = true := by simpa using ht
        have HM := HSK ht
        clear HSK HMO HFU HP ht hown hBe HB
        go_wp2
        exact ⟨⟨j + 1, by omega, by simp, by rw [HM.out]; exact HO.out, HBE.out, by rw [HM.out]; exact hZ⟩, by simp [intOf]; omega⟩
      · have ct : (t3 == 0) = false := by simpa using ht
        have HWR : Hid (IntKind.i64.wrap (t0 * t3) = t0 * t3 ∧ -3000000000 ≤ t0 * t3 ∧ t0 * t3 ≤ 3000000000 ∧ 0 < t3 ∧ t3 ≤ 3) := hid (by
          have q := HP.out
          have q2 := Um.tm_times q 2
          obtain ⟨m1, m2⟩ := (Um.may_iff _).1 q.1
          have q3 : 0 ≤ t3 ∧ t3 ≤ 3 := q2
          obtain ⟨p1, p2⟩ := Um.mul_by (A := 1000000000) (B := 3) (a := t0) (b := t3) (by omega) (by omega) (by omega) (by omega) (by decide)
          refine ⟨by rw [IntKind.wrap_i64]; omega, by omega, by omega, by omega, by omega⟩)
        have HBW := hid ((Below.refl wr.heap.size wr).alloc (Nat.le_refl _) (.cells #[.int .i64 t0, .int .i64 t1, .int .i64 t2, .int .i64 t3] 29))
        have HMB := fun w => hid (mayBe_any (t0 * t3) w)
        have hw := HWR.out.1
        clear HP HO HBE
        go_upto_region 12 with fail
        generalize wr.alloc (.cells #[.int .i64 t0, .int .i64 t1, .int .i64 t2, .int .i64 t3] 29) = W at *
        generalize hTB' : wr.heap.size = TB at HB ⊢
        have HTB : Hid (wr.heap.size ≤ TB) := hid (Nat.le_of_eq hTB')
        clear hTB' c0 c1 c2 c3 ct
        have z0 := HB.out.cell 0 rfl
        have yf := HB.out.free 0
        go_upto_region 13 with fail
        have HY := hid (Blk.set (w := W) HB.out 0 (.int .i64 (t0 * t3)) (cs' := #[.int .i64 (t0 * t3), .int .i64 t1, .int .i64 t2, .int .i64 t3]) rfl)
        have HV := hid (HBW.out.setCell (p := ⟨TB, 0, none⟩) HTB.out (.int .i64 (t0 * t3)))
        clear z0 yf HB HBW hw
        generalize W.setCell ⟨TB, 0, none⟩ (.int .i64 (t0 * t3)) = W2 at *
        have z0 := HY.out.cell 0 rfl
        by_cases hm : Um.may (t0 * t3) = true
        · have HM := HMO ht hm
          have cm : Um.may (t0 * t3) = true := hm
          clear HMO HFU HSK ht hm
          have z1 := HY.out.cell 3 rfl
          have y1 := HY.out.free 3
          have hw8 : IntKind.i64.wrap (t3 - 1) = t3 - 1 := by have := HWR.out; rw [IntKind.wrap_i64]; omega
          go_upto_region 16 with (go_at_call 27; refine (HMB _).out.mono ?_; rintro e wm ⟨rfl, hq⟩; subst wm; clear HMB)
          have HY3 := hid (HY.out.set 3 (.int .i64 (t3 - 1)) (cs' := #[.int .i64 (t0 * t3), .int .i64 t1, .int .i64 t2, .int .i64 (t3 - 1)]) rfl)
          have HV3 := hid (HV.out.setCell (p := ⟨TB, 3, none⟩) HTB.out (.int .i64 (t3 - 1)))
          clear z0 z1 y1 HY HV hw8
          generalize W2.setCell ⟨TB, 3, none⟩ (.int .i64 (t3 - 1)) = W3 at *
          have z0 := HY3.out.cell 0 rfl
          have z1 := HY3.out.cell 1 rfl
          have z2 := HY3.out.cell 2 rfl
          have z3 := HY3.out.cell 3 rfl
          have hown3 := owns_keep hown HV3.out
          have HBE := hid (hBe.trans (HV3.out.mono hBe.size))
          have hsz3 := HBE.out.size
          have HO := hid hown3
          clear hown HV3 HY3 HTB hBe
          go_wp2_with (at_builtin; refine wpList_append_own _ rfl _ _ 30 rfl wn.heap.size 29 i0 (.agg #[.int .i64 0, .int .i64 0, .int .i64 0, .int .i64 0]) 4 32 Try.underlying30 hi0 hz0 hz1 hz2 rfl (by decide) _ _ _ rfl (hown3.alloc _) _ 1 1 [.int .i64 (t0 * t3), .int .i64 (t1), .int .i64 (t2), .int .i64 (t3 - 1)] rfl rfl (near_four _ _ _ _ _ _) (by simp [Value.oneCell']) (by unfold maxLen; omega) (by omega) (by simp; omega) ?_; intro v' w1 hown' hgrow _)
          have HN := hid hown'
          have hb2 := (Below.refl wn.heap.size (W3.alloc (.cells #[.int .i64 (t0 * t3), .int .i64 t1, .int .i64 t2, .int .i64 (t3 - 1)] 29))).grown hgrow (by simp; omega) (fun j e => owns_from HO.out j e)
          exact ⟨⟨j + 1, by omega, by simp, by rw [HM.out, cellsT_append, List.length_append]; exact HN.out, (HBE.out.alloc hsz3 _).trans hb2, by rw [HM.out]; exact hid rfl⟩, by simp [intOf]; omega⟩
        · have HM := HFU ht hm
          have cm : Um.may (t0 * t3) = false := by simpa using hm
          clear HMO HFU HSK ht hm
          have HBE := hid (hBe.trans (HV.out.mono hBe.size))
          go_wp2_with (go_at_call 27; refine (HMB _).out.mono ?_; rintro e wm ⟨rfl, hq⟩; subst wm; clear HMB)
          go_returns
          exact ⟨_, by rw [HM.out]; rfl, by rw [HM.out]; exact Lt.nil _ _, hBW.trans (HBE.out.mono hBW.size)⟩
    · obtain rfl : j = f.length := by omega
      have HQ := hid hown
      have HZ := hid hZ.out
      clear hown hf hA0
      go_wp2
      go_returns
      exact ⟨_, by rw [HZ.out]; rfl, lt_owns HQ.out, hBW.trans (hBe.mono hBW.size)⟩

set_option maxRecDepth 100000 in
set_option maxHeartbeats 8000000 in
theorem nrSteep_none (u : Value) (sides k : Int) (w : World) (hl : Lt w.heap.size w u []) (h : Um.formF [] sides = 0) (hk : 0 ≤ k ∧ k < sides) :
    Calls Try.prog 13 #[u, .int .i64 sides, .int .i64 k] w fun e w' => ∃ r, e = .returned (.tuple #[r, errV (([], 0) : List Um.Tm × Int).2]) ∧ Lt w'.heap.size w' r (([], 0) : List Um.Tm × Int).1 ∧ Below w.heap.size w w' := by
  have ve := errV_none
  have q1 := errG
  have q2 := errGn
  have q3 := errE
  have q4 := errN
  obtain ⟨a0, cap0, rfl, -⟩ := (id hl)
  rw [show ([] : List Um.Tm).length = 0 from rfl] at *
  have HFC := fun w hl => hid (fcheck_any [] sides (.slice a0 0 cap0) w hl)
  have kF : (Um.formF [] sides != 0) = false := by simpa using h
  have d0 : decide (k < 0) = false := decide_eq_false (by omega)
  have d1 : decide (sides ≤ k) = false := decide_eq_false (by omega)
  clear h hk
  generalize Um.formF [] sides = G at *
  go_enter Try.func13, Try.ntmps13
  go_wp2_with (go_at_call 28; refine (HFC _ hl).out.mono ?_; rintro e wn ⟨rfl, hb⟩; have hBW := hb; clear HFC hb)
  refine wp_loop_rounds 1 ?_
  rw [rounds_succ]
  go_wp2
  go_returns
  exact ⟨_, rfl, Lt.nil _ _, hBW⟩

theorem nrSteep_any (f : List Um.Tm) (u : Value) (sides k : Int) (w : World) (hl : Lt w.heap.size w u f) :
    Calls Try.prog 13 #[u, .int .i64 sides, .int .i64 k] w fun e w' => ∃ r, e = .returned (.tuple #[r, errV (Um.steepAll f sides k).2]) ∧ Lt w'.heap.size w' r (Um.steepAll f sides k).1 ∧ Below w.heap.size w w' := by
  by_cases h : Um.formF f sides = 0
  · by_cases h2 : 0 ≤ k ∧ k < sides
    · rw [Um.steepAll_yes h h2]
      by_cases h0 : f = []
      · subst h0
        exact nrSteep_none u sides k w hl h h2
      · have h3 := (Um.form_ok.1 h).1
        rcases (by omega : k = 0 ∨ k = 1 ∨ k = 2) with rfl | rfl | rfl
        · exact nrSteep_0 f u sides w hl h h2.2 h0
        · exact nrSteep_1 f u sides w hl h h2.2 h0
        · exact nrSteep_2 f u sides w hl h h2.2 h0
    · rw [Um.steepAll_none h h2]
      exact nrSteep_range f u sides k w hl h h2
  · rw [Um.steepAll_form h]
    exact nrSteep_form f u sides k w hl h

set_option maxRecDepth 100000 in
set_option maxHeartbeats 8000000 in
theorem nrBy_steep (f : List Um.Tm) (u : Value) (b : List (Int × Int)) (v : Value) (k : Nat) (w : World) (hl : Lt w.heap.size w u f) (hs : Ls w.heap.size w v b) (hf : Um.formF f b.length = 0) (hk : k < b.length) (h : ¬ (Um.steepN f k f.length).2 = 0) :
    Calls Try.prog 34 #[u, v, .int .i64 k] w fun e w' => e = .returned (.tuple #[.int .i64 (Um.farBy f b k).1, errV (Um.farBy f b k).2]) ∧ Below w.heap.size w w' := by
  have ve := errV_none
  have q1 := errG
  have q2 := errGn
  have q3 := errE
  have q4 := errN
  obtain ⟨a0, cap0, rfl, -⟩ := (id hl)
  obtain ⟨a1, cap1, rfl, -⟩ := (id hs)
  have HST := fun w hl => hid (nrSteep_any f (.slice a0 f.length cap0) b.length k w hl)
  rw [Um.steepAll_yes hf (by omega), Int.toNat_natCast] at HST
  have HE := hid (Um.farBy_steep (b := b) h)
  have HG := hid ((Um.steep_fault f k f.length).resolve_left h)
  have kD : ((Um.steepN f k f.length).2 != 0) = true := by simpa using h
  clear h hf hk
  generalize Um.steepN f k f.length = D at *
  go_enter Try.func34, Try.ntmps34
  go_wp2_with (go_at_call 13; refine (HST _ hl).out.mono ?_; rintro e wn ⟨r, rfl, hr, hb⟩; replace hs := hs.step hb; have hB := hb; obtain ⟨a8, c8, rfl, -⟩ := (id hr); clear hb HST hl)
  go_returns
  rw [HE.out, HG.out]
  exact ⟨rfl, hB⟩

set_option maxRecDepth 100000 in
set_option maxHeartbeats 8000000 in
theorem nrBy_range (f : List Um.Tm) (u : Value) (b : List (Int × Int)) (v : Value) (k : Nat) (w : World) (hl : Lt w.heap.size w u f) (hs : Ls w.heap.size w v b) (hf : Um.formF f b.length = 0) (hbx : Um.boxF b = 0) (hk : k < b.length) (h : (Um.steepN f k f.length).2 = 0) (h2 : ¬ (Um.frR (Um.steepN f k f.length).1 b).2.2 = 0) :
    Calls Try.prog 34 #[u, v, .int .i64 k] w fun e w' => e = .returned (.tuple #[.int .i64 (Um.farBy f b k).1, errV (Um.farBy f b k).2]) ∧ Below w.heap.size w w' := by
  have ve := errV_none
  have q1 := errG
  have q2 := errGn
  have q3 := errE
  have q4 := errN
  obtain ⟨a0, cap0, rfl, -⟩ := (id hl)
  obtain ⟨a1, cap1, rfl, -⟩ := (id hs)
  have HST := fun w hl => hid (nrSteep_any f (.slice a0 f.length cap0) b.length k w hl)
  rw [Um.steepAll_yes hf (by omega), Int.toNat_natCast] at HST
  have HRA := fun u w hl hs => hid (frange_any (Um.steepN f k f.length).1 u b (.slice a1 b.length cap1) w hl hs)
  rw [Um.steep_range hf hbx h] at HRA
  have kD : ((Um.steepN f k f.length).2 != 0) = false := by simpa using h
  have HE := hid (Um.farBy_range h h2)
  have HG : Hid (Um.frR (Um.steepN f k f.length).1 b = (0, 0, 4)) := hid ((Um.sum_fault (Um.steepN f k f.length).1 b (Um.steepN f k f.length).1.length).resolve_left h2)
  have kR : ((Um.frR (Um.steepN f k f.length).1 b).2.2 != 0) = true := by simpa using h2
  clear h h2 hf hbx hk
  generalize Um.frR (Um.steepN f k f.length).1 b = R at *
  generalize Um.steepN f k f.length = D at *
  go_enter Try.func34, Try.ntmps34
  go_wp2_with (first | (go_at_call 13; refine (HST _ hl).out.mono ?_; rintro e wn ⟨r, rfl, hr, hb⟩; replace hs := hs.step hb; have hB := hb; obtain ⟨a8, c8, rfl, -⟩ := (id hr); clear hb HST hl) | (go_at_call 53; refine (HRA _ _ hr hs).out.mono ?_; rintro e wk ⟨rfl, hb⟩; replace hB := hB.trans (hb.mono hB.size); clear hb HRA hr; have hN := Sp.new wk R.1 R.2.1; have x0 := hN.lo; have x1 := hN.hi; replace hB := hB.alloc hB.size (.cells #[.int .i64 R.1, .int .i64 R.2.1] 32); clear hN))
  go_returns
  refine ⟨?_, hB⟩
  rw [HE.out, HG.out]
  rfl

set_option maxRecDepth 100000 in
set_option maxHeartbeats 8000000 in
theorem nrBy_yes (f : List Um.Tm) (u : Value) (b : List (Int × Int)) (v : Value) (k : Nat) (w : World) (hl : Lt w.heap.size w u f) (hs : Ls w.heap.size w v b) (hf : Um.formF f b.length = 0) (hbx : Um.boxF b = 0) (hk : k < b.length) (h : (Um.steepN f k f.length).2 = 0) (h2 : (Um.frR (Um.steepN f k f.length).1 b).2.2 = 0) :
    Calls Try.prog 34 #[u, v, .int .i64 k] w fun e w' => e = .returned (.tuple #[.int .i64 (Um.farBy f b k).1, errV (Um.farBy f b k).2]) ∧ Below w.heap.size w w' := by
  have ve := errV_none
  have q1 := errG
  have q2 := errGn
  have q3 := errE
  have q4 := errN
  obtain ⟨a0, cap0, rfl, -⟩ := (id hl)
  obtain ⟨a1, cap1, rfl, -⟩ := (id hs)
  have HST := fun w hl => hid (nrSteep_any f (.slice a0 f.length cap0) b.length k w hl)
  rw [Um.steepAll_yes hf (by omega), Int.toNat_natCast] at HST
  have HRA := fun u w hl hs => hid (frange_any (Um.steepN f k f.length).1 u b (.slice a1 b.length cap1) w hl hs)
  rw [Um.steep_range hf hbx h] at HRA
  have kD : ((Um.steepN f k f.length).2 != 0) = false := by simpa using h
  have HE := hid (Um.farBy_yes h h2)
  have kR : ((Um.frR (Um.steepN f k f.length).1 b).2.2 != 0) = false := by simpa using h2
  have hc : Um.chk (Um.frR (Um.steepN f k f.length).1 b).1 (Um.frR (Um.steepN f k f.length).1 b).2.1 = 0 := Um.sum_chk (Um.fr_terms (Um.steep_form hf h)) hbx (Nat.le_refl _) h2
  have HFA := fun w => hid (farAll_any (Um.frR (Um.steepN f k f.length).1 b).1 (Um.frR (Um.steepN f k f.length).1 b).2.1 w)
  have HC : Hid (farAll (Um.frR (Um.steepN f k f.length).1 b).1 (Um.frR (Um.steepN f k f.length).1 b).2.1 = ((Um.farR (Um.frR (Um.steepN f k f.length).1 b).1 (Um.frR (Um.steepN f k f.length).1 b).2.1).1, (Um.farR (Um.frR (Um.steepN f k f.length).1 b).1 (Um.frR (Um.steepN f k f.length).1 b).2.1).2, 0)) := by unfold farAll; rw [if_pos hc]; exact hid rfl
  clear h h2 hf hbx hk hc
  generalize Um.frR (Um.steepN f k f.length).1 b = R at *
  generalize Um.steepN f k f.length = D at *
  generalize farAll R.1 R.2.1 = FA at *
  go_enter Try.func34, Try.ntmps34
  go_wp2_with (first | (go_at_call 13; refine (HST _ hl).out.mono ?_; rintro e wn ⟨r, rfl, hr, hb⟩; replace hs := hs.step hb; have hB := hb; obtain ⟨a8, c8, rfl, -⟩ := (id hr); clear hb HST hl) | (go_at_call 53; refine (HRA _ _ hr hs).out.mono ?_; rintro e wk ⟨rfl, hb⟩; replace hB := hB.trans (hb.mono hB.size); clear hb HRA hr; have hN := Sp.new wk R.1 R.2.1; have x0 := hN.lo; have x1 := hN.hi; replace hB := hB.alloc hB.size (.cells #[.int .i64 R.1, .int .i64 R.2.1] 32); clear hN) | (go_at_call 54; refine (HFA _).out.mono ?_; rintro e wm ⟨rfl, hb⟩; replace hB := hB.trans (hb.mono hB.size); clear hb HFA))
  go_returns
  rw [HE.out, HC.out]
  exact ⟨rfl, hB⟩

theorem nrBy_any (f : List Um.Tm) (u : Value) (b : List (Int × Int)) (v : Value) (k : Nat) (w : World) (hl : Lt w.heap.size w u f) (hs : Ls w.heap.size w v b) (hf : Um.formF f b.length = 0) (hbx : Um.boxF b = 0) (hk : k < b.length) :
    Calls Try.prog 34 #[u, v, .int .i64 k] w fun e w' => e = .returned (.tuple #[.int .i64 (Um.farBy f b k).1, errV (Um.farBy f b k).2]) ∧ Below w.heap.size w w' := by
  by_cases h : (Um.steepN f k f.length).2 = 0
  · by_cases h2 : (Um.frR (Um.steepN f k f.length).1 b).2.2 = 0
    · exact nrBy_yes f u b v k w hl hs hf hbx hk h h2
    · exact nrBy_range f u b v k w hl hs hf hbx hk h h2
  · exact nrBy_steep f u b v k w hl hs hf hk h

set_option maxRecDepth 100000 in
set_option maxHeartbeats 8000000 in
theorem nrSum_any (f : List Um.Tm) (u : Value) (b : List (Int × Int)) (v : Value) (w : World) (hl : Lt w.heap.size w u f) (hs : Ls w.heap.size w v b) (hf : Um.formF f b.length = 0) (hbx : Um.boxF b = 0) :
    Calls Try.prog 18 #[u, v] w fun e w' => e = .returned (.tuple #[.int .i64 (Um.sumR f b).1, errV (Um.sumR f b).2]) ∧ Below w.heap.size w w' := by
  have ve := errV_none
  have q1 := errG
  have q2 := errGn
  have q3 := errE
  have q4 := errN
  obtain ⟨a0, cap0, rfl, -⟩ := (id hl)
  obtain ⟨a1, cap1, rfl, -⟩ := (id hs)
  have hb3 := (Um.box_len hbx).2
  have HSM := fun n => hid (Um.farBy_small (k := n) hf hbx)
  have HBS := hid (fun n => Um.bsum_small (k := n) hf hbx)
  have HBA := fun n w hl hs hk => hid (nrBy_any f (.slice a0 f.length cap0) b (.slice a1 b.length cap1) n w hl hs hf hbx hk)
  have HMB := fun n w => hid (mayBe_any n w)
  clear hf hbx
  go_enter Try.func18, Try.ntmps18
  go_wp2
  go_loopw [6, 12] (fun m i wr => ∃ n : Nat, n ≤ b.length ∧ i = .int .i64 n ∧ m = .int .i64 (Um.bsum f b n).1 ∧ Below w.heap.size w wr ∧ Hid ((Um.bsum f b n).2 = 0)) (fun _ i _ => b.length - (intOf i).toNat)
  case atStart => exact ⟨0, Nat.zero_le _, rfl, rfl, Below.refl _ _, rfl⟩
  case round =>
    obtain ⟨n, hn, rfl, rfl, hBe, hZ⟩ := hrel
    by_cases hnl : n < b.length
    · have hnn : (n : Int) < (b.length : Int) := by omega
      have HBY := fun w hl hs => HBA n w hl hs hnl
      have sm := (HSM n).out
      have sb := HBS.out n hZ.out
      have hwr : IntKind.i64.wrap ((Um.bsum f b n).1 + (Um.farBy f b n).1) = (Um.bsum f b n).1 + (Um.farBy f b n).1 := by rw [IntKind.wrap_i64]; omega
      have HNX := fun h => hid (Um.bsum_next hZ.out h)
      have HHA := fun h => hid (Um.bsum_halt (f := f) hnl h)
      have HFT := hid (Um.farBy_fault f b n)
      clear HSM HBS HBA HMB sm sb
      generalize Um.farBy f b n = Y at *
      by_cases hy : Y.2 = 0
      · have kY : (Y.2 != 0) = false := by simpa using hy
        have HM := HNX hy
        clear hy HNX HHA HFT
        go_wp2_with (go_at_call 34; refine (HBY _ ((hl.keep hBe).wide hBe.size) ((hs.keep hBe).wide hBe.size)).out.mono ?_; rintro e wk ⟨rfl, hb⟩; replace hBe := hBe.trans (hb.mono hBe.size); clear hb HBY)
        exact ⟨⟨n + 1, by omega, by simp, by rw [HM.out], hBe, by rw [HM.out]; exact hid rfl⟩, by simp [intOf]; omega⟩
      · have kY : (Y.2 != 0) = true := by simpa using hy
        have HM : Hid (Um.sumR f b = (0, 4)) := hid (Um.sumR_not (by rw [(HHA hy).out]; decide))
        have HE := hid (HFT.out.resolve_left hy)
        clear hy HNX HHA HFT
        go_wp2_with (go_at_call 34; refine (HBY _ ((hl.keep hBe).wide hBe.size) ((hs.keep hBe).wide hBe.size)).out.mono ?_; rintro e wk ⟨rfl, hb⟩; replace hBe := hBe.trans (hb.mono hBe.size); clear hb HBY)
        go_returns
        rw [HM.out, HE.out]
        exact ⟨rfl, hBe⟩
    · obtain rfl : n = b.length := by omega
      have HMM := HMB (Um.bsum f b b.length).1
      by_cases hm : Um.may (Um.bsum f b b.length).1 = true
      · have HM := hid (Um.sumR_yes hZ.out hm)
        have cm : Um.may (Um.bsum f b b.length).1 = true := hm
        clear hm HSM HBS HBA HMB
        go_wp2_with (go_at_call 27; refine (HMM _).out.mono ?_; rintro e wm ⟨rfl, hq⟩; subst wm; clear HMM)
        go_returns
        rw [HM.out]
        exact ⟨rfl, hBe⟩
      · have HM := hid (Um.sumR_full hm)
        have cm : Um.may (Um.bsum f b b.length).1 = false := by simpa using hm
        clear hm HSM HBS HBA HMB
        go_wp2_with (go_at_call 27; refine (HMM _).out.mono ?_; rintro e wm ⟨rfl, hq⟩; subst wm; clear HMM)
        go_returns
        rw [HM.out]
        exact ⟨rfl, hBe⟩

set_option maxRecDepth 100000 in
set_option maxHeartbeats 8000000 in
theorem nrBound_not (s : List (List Um.Tm)) (v0 : Value) (p : List (Int × Int)) (v1 : Value) (b : List (Int × Int)) (v : Value) (w : World) (hf : Lf w.heap.size w v0 s) (hp : Ls w.heap.size w v1 p) (hs : Ls w.heap.size w v b) (h : ¬ Um.readyF s p b = 0) :
    Calls Try.prog 6 #[.agg #[v0, v1], v] w fun e w' => e = .returned (.tuple #[.int .i64 0, errV (Um.readyF s p b)]) ∧ Below w.heap.size w w' := by
  have ve := errV_none
  have q1 := errG
  have q2 := errGn
  have q3 := errE
  have q4 := errN
  obtain ⟨a0, cap0, rfl, -⟩ := (id hf)
  obtain ⟨a1, cap1, rfl, -⟩ := (id hp)
  obtain ⟨a2, cap2, rfl, -⟩ := (id hs)
  have hY := SyAt.new w (.slice a0 s.length cap0) (.slice a1 p.length cap1) 25 rfl
  have hBW : Below w.heap.size w (w.alloc (.cells #[.slice a0 s.length cap0, .slice a1 p.length cap1] 25)) := by go_grown
  have y0 := hY.c0
  have y1 := hY.c1
  have hf2 := hf.step hBW
  have hp2 := hp.step hBW
  have hs2 := hs.step hBW
  have HCO := fun w hf hp hs => hid (sover_any s (.slice a0 s.length cap0) p (.slice a1 p.length cap1) b (.slice a2 b.length cap2) w hf hp hs)
  have kR : (Um.readyF s p b != 0) = true := by simpa using h
  clear h
  generalize Um.readyF s p b = G at *
  go_enter Try.func6, Try.ntmps6
  go_wp2_with (go_at_call 17; refine (HCO _ hf2 hp2 hs2).out.mono ?_; rintro e wn ⟨rfl, hb⟩; have hB := hBW.trans (hb.mono hBW.size); replace hY := hY.step hb; clear hb HCO y0 y1 hBW hf2 hp2 hs2; have y0 := hY.c0; have y1 := hY.c1)
  go_returns
  exact ⟨rfl, hB⟩

set_option maxRecDepth 100000 in
set_option maxHeartbeats 8000000 in
theorem nrBound_yes (s : List (List Um.Tm)) (v0 : Value) (p : List (Int × Int)) (v1 : Value) (b : List (Int × Int)) (v : Value) (w : World) (hf : Lf w.heap.size w v0 s) (hp : Ls w.heap.size w v1 p) (hs : Ls w.heap.size w v b) (h : Um.readyF s p b = 0) :
    Calls Try.prog 6 #[.agg #[v0, v1], v] w fun e w' => e = .returned (.tuple #[.int .i64 (Um.bndN s b s.length).1, errV (Um.bndN s b s.length).2]) ∧ Below w.heap.size w w' := by
  have ve := errV_none
  have q1 := errG
  have q2 := errGn
  have q3 := errE
  have q4 := errN
  obtain ⟨hsy, hbx, hlen⟩ := Um.ready_ok.1 h
  obtain ⟨h0, h3, hpl, hforms, -⟩ := Um.sys_ok.1 hsy
  obtain ⟨b1, off1, cap, rfl, hcap, hlt1, hall1⟩ := hf.open h0
  obtain ⟨a1, cap1, rfl, -⟩ := (id hp)
  obtain ⟨a2, cap2, rfl, -⟩ := (id hs)
  have hY := SyAt.new w (.slice (some ⟨b1, off1, none⟩) s.length cap) (.slice a1 p.length cap1) 25 rfl
  have hBW : Below w.heap.size w (w.alloc (.cells #[.slice (some ⟨b1, off1, none⟩) s.length cap, .slice a1 p.length cap1] 25)) := by go_grown
  have y0 := hY.c0
  have y1 := hY.c1
  have hf2 := hf.step hBW
  have hp2 := hp.step hBW
  have hs2 := hs.step hBW
  have HCO := fun w hf hp hs => hid (sover_any s (.slice (some ⟨b1, off1, none⟩) s.length cap) p (.slice a1 p.length cap1) b (.slice a2 b.length cap2) w hf hp hs)
  have kR : (Um.readyF s p b != 0) = false := by simpa using h
  have HSA := fun f u w hl hs hf => hid (nrSum_any f u b (.slice a2 b.length cap2) w hl hs hf hbx)
  have HFO := hid fun j (hj : j < s.length) => (by rw [hlen]; exact hforms _ (Um.nx_mem hj) : Um.formF (Um.nx s j) b.length = 0)
  have HAL := hid hall1
  clear h hsy hbx hpl hforms hlen hall1
  generalize Um.readyF s p b = G at *
  go_enter Try.func6, Try.ntmps6
  go_wp2_with (go_at_call 17; refine (HCO _ hf2 hp2 hs2).out.mono ?_; rintro e wn ⟨rfl, hb⟩; have hB := hBW.trans (hb.mono hBW.size); replace hY := hY.step hb; clear hb HCO y0 y1 hBW hf2 hp2 hs2; have y0 := hY.c0; have y1 := hY.c1)
  go_loopw [7, 21] (fun m i wr => ∃ j : Nat, j ≤ s.length ∧ i = .int .i64 j ∧ m = .int .i64 (Um.bndN s b j).1 ∧ Below w.heap.size w wr ∧ Hid ((Um.bndN s b j).2 = 0)) (fun _ i _ => s.length - (intOf i).toNat)
  case atStart => exact ⟨0, Nat.zero_le _, rfl, rfl, hB, rfl⟩
  case round =>
    clear hB hY y0 y1
    obtain ⟨j, hj, rfl, rfl, hBe, hZ⟩ := hrel
    by_cases hjl : j < s.length
    · have hjj : (j : Int) < (s.length : Int) := by omega
      obtain ⟨u, hu0, hl1⟩ := HAL.out j hjl
      obtain ⟨a9, c9, rfl, -⟩ := (id hl1)
      have yu := (hBe.cell (p := ⟨b1, off1 + j, none⟩) hlt1).trans hu0
      have HSU := fun w hl hs => HSA (Um.nx s j) (.slice a9 (Um.nx s j).length c9) w hl hs (HFO.out j hjl)
      have HNX := fun h => hid (Um.bnd_next hZ.out h)
      have HHA := fun h => hid (Um.bnd_halt (b := b) hjl h)
      have HFT := hid (Um.sumR_fault (Um.nx s j) b)
      clear HSA HFO HAL hu0
      generalize Um.sumR (Um.nx s j) b = Y at *
      generalize Um.nx s j = f at *
      by_cases hy : Y.2 = 0
      · have kY : (Y.2 != 0) = false := by simpa using hy
        have HM := HNX hy
        clear hy HNX HHA HFT
        go_wp2_with (go_at_call 18; refine (HSU _ ((hl1.keep hBe).wide hBe.size) ((hs.keep hBe).wide hBe.size)).out.mono ?_; rintro e wk ⟨rfl, hb⟩; replace hBe := hBe.trans (hb.mono hBe.size); clear hb HSU)
        exact ⟨⟨j + 1, by omega, by simp, by rw [HM.out], hBe, by rw [HM.out]; exact hid rfl⟩, by simp [intOf]; omega⟩
      · have kY : (Y.2 != 0) = true := by simpa using hy
        have HM := HHA hy
        have HE := hid (HFT.out.resolve_left hy)
        clear hy HNX HHA HFT
        go_wp2_with (go_at_call 18; refine (HSU _ ((hl1.keep hBe).wide hBe.size) ((hs.keep hBe).wide hBe.size)).out.mono ?_; rintro e wk ⟨rfl, hb⟩; replace hBe := hBe.trans (hb.mono hBe.size); clear hb HSU)
        go_returns
        rw [HM.out, HE.out]
        exact ⟨rfl, hBe⟩
    · obtain rfl : j = s.length := by omega
      have HZ := hid hZ.out
      clear HSA HFO HAL
      go_wp2
      go_returns
      rw [HZ.out]
      exact ⟨rfl, hBe⟩

theorem nrBound_any (s : List (List Um.Tm)) (v0 : Value) (p : List (Int × Int)) (v1 : Value) (b : List (Int × Int)) (v : Value) (w : World) (hf : Lf w.heap.size w v0 s) (hp : Ls w.heap.size w v1 p) (hs : Ls w.heap.size w v b) :
    Calls Try.prog 6 #[.agg #[v0, v1], v] w fun e w' => e = .returned (.tuple #[.int .i64 (Um.bndAll s p b).1, errV (Um.bndAll s p b).2]) ∧ Below w.heap.size w w' := by
  by_cases h : Um.readyF s p b = 0
  · rw [Um.bndAll_yes h]
    exact nrBound_yes s v0 p v1 b v w hf hp hs h
  · rw [Um.bndAll_not h]
    exact nrBound_not s v0 p v1 b v w hf hp hs h

set_option maxRecDepth 100000 in
set_option maxHeartbeats 8000000 in
theorem nrPull_bound (s : List (List Um.Tm)) (v0 : Value) (p : List (Int × Int)) (v1 : Value) (b : List (Int × Int)) (v : Value) (w : World) (hf : Lf w.heap.size w v0 s) (hp : Ls w.heap.size w v1 p) (hs : Ls w.heap.size w v b) (h : ¬ (Um.bndAll s p b).2 = 0) :
    Calls Try.prog 7 #[.agg #[v0, v1], v] w fun e w' => e = .returned (.tuple #[.bool (Um.pullAll s p b).1, errV (Um.pullAll s p b).2]) ∧ Below w.heap.size w w' := by
  have ve := errV_none
  have q1 := errG
  have q2 := errGn
  have q3 := errE
  have q4 := errN
  obtain ⟨a0, cap0, rfl, -⟩ := (id hf)
  obtain ⟨a1, cap1, rfl, -⟩ := (id hp)
  obtain ⟨a2, cap2, rfl, -⟩ := (id hs)
  have hY := SyAt.new w (.slice a0 s.length cap0) (.slice a1 p.length cap1) 25 rfl
  have hBW : Below w.heap.size w (w.alloc (.cells #[.slice a0 s.length cap0, .slice a1 p.length cap1] 25)) := by go_grown
  have y0 := hY.c0
  have y1 := hY.c1
  have hf2 := hf.step hBW
  have hp2 := hp.step hBW
  have hs2 := hs.step hBW
  have HBD := fun w hf hp hs => hid (nrBound_any s (.slice a0 s.length cap0) p (.slice a1 p.length cap1) b (.slice a2 b.length cap2) w hf hp hs)
  have HE := hid (Um.pull_bound h)
  have kB : ((Um.bndAll s p b).2 != 0) = true := by simpa using h
  clear h
  generalize Um.bndAll s p b = B at *
  generalize Um.ofAll s p b = O at *
  generalize Um.isB s p b = I at *
  go_enter Try.func7, Try.ntmps7
  go_wp2_with (go_at_call 6; refine (HBD _ hf2 hp2 hs2).out.mono ?_; rintro e wn ⟨rfl, hb⟩; have hB := hBW.trans (hb.mono hBW.size); replace hY := hY.step hb; replace hf2 := hf2.step hb; replace hp2 := hp2.step hb; replace hs2 := hs2.step hb; clear hb HBD y0 y1 hBW; have y0 := hY.c0; have y1 := hY.c1)
  go_returns
  rw [HE.out]
  exact ⟨rfl, hB⟩

set_option maxRecDepth 100000 in
set_option maxHeartbeats 8000000 in
theorem nrPull_next (s : List (List Um.Tm)) (v0 : Value) (p : List (Int × Int)) (v1 : Value) (b : List (Int × Int)) (v : Value) (w : World) (hf : Lf w.heap.size w v0 s) (hp : Ls w.heap.size w v1 p) (hs : Ls w.heap.size w v b) (h : (Um.bndAll s p b).2 = 0) (h2 : ¬ (Um.ofAll s p b).2 = 0) :
    Calls Try.prog 7 #[.agg #[v0, v1], v] w fun e w' => e = .returned (.tuple #[.bool (Um.pullAll s p b).1, errV (Um.pullAll s p b).2]) ∧ Below w.heap.size w w' := by
  have ve := errV_none
  have q1 := errG
  have q2 := errGn
  have q3 := errE
  have q4 := errN
  obtain ⟨a0, cap0, rfl, -⟩ := (id hf)
  obtain ⟨a1, cap1, rfl, -⟩ := (id hp)
  obtain ⟨a2, cap2, rfl, -⟩ := (id hs)
  have hY := SyAt.new w (.slice a0 s.length cap0) (.slice a1 p.length cap1) 25 rfl
  have hBW : Below w.heap.size w (w.alloc (.cells #[.slice a0 s.length cap0, .slice a1 p.length cap1] 25)) := by go_grown
  have y0 := hY.c0
  have y1 := hY.c1
  have hf2 := hf.step hBW
  have hp2 := hp.step hBW
  have hs2 := hs.step hBW
  have HBD := fun w hf hp hs => hid (nrBound_any s (.slice a0 s.length cap0) p (.slice a1 p.length cap1) b (.slice a2 b.length cap2) w hf hp hs)
  have HIS := fun w hf hp hs => hid (hlIs_any s (.slice a0 s.length cap0) p (.slice a1 p.length cap1) b (.slice a2 b.length cap2) w hf hp hs)
  have kB : ((Um.bndAll s p b).2 != 0) = false := by simpa using h
  have HE := hid (Um.pull_next h h2)
  have kO : ((Um.ofAll s p b).2 != 0) = true := by simpa using h2
  clear h h2
  generalize Um.bndAll s p b = B at *
  generalize Um.ofAll s p b = O at *
  generalize Um.isB s p b = I at *
  go_enter Try.func7, Try.ntmps7
  go_wp2_with (first | (go_at_call 6; refine (HBD _ hf2 hp2 hs2).out.mono ?_; rintro e wn ⟨rfl, hb⟩; have hB := hBW.trans (hb.mono hBW.size); replace hY := hY.step hb; replace hf2 := hf2.step hb; replace hp2 := hp2.step hb; replace hs2 := hs2.step hb; clear hb HBD y0 y1 hBW; have y0 := hY.c0; have y1 := hY.c1) | (go_at_call 15; refine (HIS _ hf2 hp2 hs2).out.mono ?_; rintro e wk ⟨rfl, hb⟩; replace hB := hB.trans (hb.mono hB.size); clear hb HIS))
  go_returns
  rw [HE.out]
  exact ⟨rfl, hB⟩

set_option maxRecDepth 100000 in
set_option maxHeartbeats 8000000 in
theorem nrPull_yes (s : List (List Um.Tm)) (v0 : Value) (p : List (Int × Int)) (v1 : Value) (b : List (Int × Int)) (v : Value) (w : World) (hf : Lf w.heap.size w v0 s) (hp : Ls w.heap.size w v1 p) (hs : Ls w.heap.size w v b) (h : (Um.bndAll s p b).2 = 0) (h2 : (Um.ofAll s p b).2 = 0) :
    Calls Try.prog 7 #[.agg #[v0, v1], v] w fun e w' => e = .returned (.tuple #[.bool (Um.pullAll s p b).1, errV (Um.pullAll s p b).2]) ∧ Below w.heap.size w w' := by
  have ve := errV_none
  have q1 := errG
  have q2 := errGn
  have q3 := errE
  have q4 := errN
  obtain ⟨a0, cap0, rfl, -⟩ := (id hf)
  obtain ⟨a1, cap1, rfl, -⟩ := (id hp)
  obtain ⟨a2, cap2, rfl, -⟩ := (id hs)
  have hY := SyAt.new w (.slice a0 s.length cap0) (.slice a1 p.length cap1) 25 rfl
  have hBW : Below w.heap.size w (w.alloc (.cells #[.slice a0 s.length cap0, .slice a1 p.length cap1] 25)) := by go_grown
  have y0 := hY.c0
  have y1 := hY.c1
  have hf2 := hf.step hBW
  have hp2 := hp.step hBW
  have hs2 := hs.step hBW
  have HBD := fun w hf hp hs => hid (nrBound_any s (.slice a0 s.length cap0) p (.slice a1 p.length cap1) b (.slice a2 b.length cap2) w hf hp hs)
  have HIS := fun w hf hp hs => hid (hlIs_any s (.slice a0 s.length cap0) p (.slice a1 p.length cap1) b (.slice a2 b.length cap2) w hf hp hs)
  have kB : ((Um.bndAll s p b).2 != 0) = false := by simpa using h
  have HE : Hid (Um.pullAll s p b = (decide ((Um.bndAll s p b).1 < 1000) && Um.isB s p b, 0)) := hid (by
    rw [Um.pull_yes h h2]
    unfold Um.isB
    rw [decide_eq_true h2, Bool.true_and])
  have kO : ((Um.ofAll s p b).2 != 0) = false := by simpa using h2
  obtain ⟨Z, kZ⟩ : ∃ Z, decide ((Um.bndAll s p b).1 < 1000) = Z := ⟨_, rfl⟩
  rw [kZ] at HE
  clear h h2
  cases Z with
  | false =>
   generalize Um.bndAll s p b = B at *
   generalize Um.ofAll s p b = O at *
   generalize Um.isB s p b = I at *
   go_enter Try.func7, Try.ntmps7
   go_wp2_with (first | (go_at_call 6; refine (HBD _ hf2 hp2 hs2).out.mono ?_; rintro e wn ⟨rfl, hb⟩; have hB := hBW.trans (hb.mono hBW.size); replace hY := hY.step hb; replace hf2 := hf2.step hb; replace hp2 := hp2.step hb; replace hs2 := hs2.step hb; clear hb HBD y0 y1 hBW; have y0 := hY.c0; have y1 := hY.c1) | (go_at_call 15; refine (HIS _ hf2 hp2 hs2).out.mono ?_; rintro e wk ⟨rfl, hb⟩; replace hB := hB.trans (hb.mono hB.size); clear hb HIS))
   go_returns
   rw [HE.out]
   exact ⟨rfl, hB⟩
  | true =>
   generalize Um.bndAll s p b = B at *
   generalize Um.ofAll s p b = O at *
   generalize Um.isB s p b = I at *
   go_enter Try.func7, Try.ntmps7
   go_wp2_with (first | (go_at_call 6; refine (HBD _ hf2 hp2 hs2).out.mono ?_; rintro e wn ⟨rfl, hb⟩; have hB := hBW.trans (hb.mono hBW.size); replace hY := hY.step hb; replace hf2 := hf2.step hb; replace hp2 := hp2.step hb; replace hs2 := hs2.step hb; clear hb HBD y0 y1 hBW; have y0 := hY.c0; have y1 := hY.c1) | (go_at_call 15; refine (HIS _ hf2 hp2 hs2).out.mono ?_; rintro e wk ⟨rfl, hb⟩; replace hB := hB.trans (hb.mono hB.size); clear hb HIS))
   go_returns
   rw [HE.out]
   exact ⟨rfl, hB⟩

theorem nrPull_any (s : List (List Um.Tm)) (v0 : Value) (p : List (Int × Int)) (v1 : Value) (b : List (Int × Int)) (v : Value) (w : World) (hf : Lf w.heap.size w v0 s) (hp : Ls w.heap.size w v1 p) (hs : Ls w.heap.size w v b) :
    Calls Try.prog 7 #[.agg #[v0, v1], v] w fun e w' => e = .returned (.tuple #[.bool (Um.pullAll s p b).1, errV (Um.pullAll s p b).2]) ∧ Below w.heap.size w w' := by
  by_cases h : (Um.bndAll s p b).2 = 0
  · by_cases h2 : (Um.ofAll s p b).2 = 0
    · exact nrPull_yes s v0 p v1 b v w hf hp hs h h2
    · exact nrPull_next s v0 p v1 b v w hf hp hs h h2
  · exact nrPull_bound s v0 p v1 b v w hf hp hs h
end Go.Proofs.Ytmkdjaafkigemaa
