/-
  What the document's answer (package spanref1) to going up or down alone is: Way, Range, of what is right.
-/
import Derived.Test.YtfmjndipanlcoaaDoorMono
import Derived.Test.YtfmjndipanlcoaaDoorRefCenter
namespace Go.Proofs.YtfmjndipanlcoaaDoor
set_option linter.unusedSimpArgs false
open Go.RowKit

theorem rWay_any (a b : Int) (w : World) :
    Calls Tryd.prog 40 #[.agg #[.int .i64 a, .int .i64 b]] w fun e w' => e = .returned (.int .i64 (Um.wayR a b)) ∧ Below w.heap.size w w' := by
  have hF := (Fr.start w).push a b rfl
  have x0l := (hF.at 0 rfl).lo
  have x0h := (hF.at 0 rfl).hi
  rcases Um.way_cases a b with ⟨u1, e⟩ | ⟨u1, u2, e⟩ | ⟨u1, u2, e⟩
  · have t1 : decide (0 ≤ a) = true := by simpa using u1
    rw [e]
    clear u1 e
    go_enter Tryd.func40, Tryd.ntmps40
    go_wp2
    go_returns
    exact ⟨rfl, hF.below⟩
  · have t1 : decide (0 ≤ a) = false := by simpa using u1
    have t2 : decide (b ≤ 0) = true := by simpa using u2
    rw [e]
    clear u1 u2 e
    go_enter Tryd.func40, Tryd.ntmps40
    go_wp2
    go_returns
    exact ⟨rfl, hF.below⟩
  · have t1 : decide (0 ≤ a) = false := by simpa using u1
    have t2 : decide (b ≤ 0) = false := by simpa using u2
    rw [e]
    clear u1 u2 e
    go_enter Tryd.func40, Tryd.ntmps40
    go_wp2
    go_returns
    exact ⟨rfl, hF.below⟩

theorem mono_ref {p : List Int} {lo hi : Int} (ho : Um.over p lo hi = 0) {B S A C : Int × Int × Int} (eB : Um.bestR lo hi p = B) (eS : Um.slopeR lo hi p = S) (eA : Um.hornR lo lo p = A) (eC : Um.hornR hi hi p = C) :
    (¬ B.2.2 = 0 ∧ Um.monoR lo hi p = (0, 0, B.2.2)) ∨ (B.2.2 = 0 ∧ S.2.2 = 0 ∧ A.2.2 = 0 ∧ C.2.2 = 0 ∧
      ((Um.wayR S.1 S.2.1 = 0 ∧ Um.monoR lo hi p = (B.1, B.2.1, 0)) ∨ (Um.wayR S.1 S.2.1 = -1 ∧ Um.monoR lo hi p = (C.1, A.2.1, 0)) ∨ (Um.wayR S.1 S.2.1 = 1 ∧ Um.monoR lo hi p = (A.1, C.2.1, 0)))) := by
  obtain ⟨hp, hc⟩ := Um.over_ok.1 ho
  have hp' := Um.pchk_ok.1 hp
  have hle := (Um.chk_ok.1 hc).2.2
  have fB := Um.best_fault lo hi p
  unfold Um.monoR
  by_cases h : B.2.2 = 0
  · refine .inr ⟨h, ?_⟩
    rw [eB, if_pos h, eS]
    have h' : (Um.bestR lo hi p).2.2 = 0 := by rw [eB]; exact h
    have hh := (Um.best_ok h').1
    have hs := Um.best_slope h'
    have h1 := (Um.horn_in (Int.le_refl lo) (Int.le_refl lo) hle p hp'.1 hp'.2.2 hh).1
    have h2 := (Um.horn_in hle (Int.le_refl hi) (Int.le_refl hi) p hp'.1 hp'.2.2 hh).1
    have n1 : Um.endsR lo hi p = ((Um.hornR lo lo p).1, (Um.hornR hi hi p).2.1, 0) := by unfold Um.endsR; rw [if_pos h1, if_pos h2]
    have n2 : Um.endsR hi lo p = ((Um.hornR hi hi p).1, (Um.hornR lo lo p).2.1, 0) := by unfold Um.endsR; rw [if_pos h2, if_pos h1]
    rw [eA, eC] at n1
    rw [eA, eC] at n2
    rw [eS] at hs
    rw [eA] at h1
    rw [eC] at h2
    refine ⟨hs, h1, h2, ?_⟩
    rcases Um.way_cases S.1 S.2.1 with ⟨_, e⟩ | ⟨_, _, e⟩ | ⟨_, _, e⟩
    · refine .inr (.inr ⟨e, ?_⟩)
      rw [e, n1]; rfl
    · refine .inr (.inl ⟨e, ?_⟩)
      rw [e, n2]; rfl
    · refine .inl ⟨e, ?_⟩
      rw [e, if_pos rfl]; obtain ⟨x, y, z⟩ := B; simp only at h; subst h; rfl
  · refine .inl ⟨h, ?_⟩
    rw [eB] at fB ⊢
    rw [if_neg h, fB.resolve_left h]

set_option maxRecDepth 100000 in
set_option maxHeartbeats 8000000 in
theorem rRange_any (p : List Int) (v : Value) (lo hi : Int) (w : World) (hl : Li w.heap.size w v p) (ho : Um.over p lo hi = 0) :
    Calls Tryd.prog 41 #[v, .agg #[.int .i64 lo, .int .i64 hi]] w fun e w' => e = .returned (.tuple #[.agg #[.int .i64 (Um.monoR lo hi p).1, .int .i64 (Um.monoR lo hi p).2.1], .int .i64 (Um.monoR lo hi p).2.2]) ∧ Below w.heap.size w w' := by
  obtain ⟨hp, hc⟩ := Um.over_ok.1 ho
  obtain ⟨m1, m2, -⟩ := Um.chk_ok.1 hc
  have HB := fun w hl => hid (rBest_any p v lo hi w hl ho)
  have HS := fun w hl => hid (rSlope_any p v lo hi w hl ho)
  have HA := fun w hl => hid (rHorner_any p v lo lo w hl (Um.over_ok.2 ⟨hp, Um.chk_alone m1⟩))
  have HC := fun w hl => hid (rHorner_any p v hi hi w hl (Um.over_ok.2 ⟨hp, Um.chk_alone m2⟩))
  have HW := fun w => hid (rWay_any (Um.slopeR lo hi p).1 (Um.slopeR lo hi p).2.1 w)
  have hF := Fr.two w lo hi
  have x1l := (hF.at 1 rfl).lo
  have x1h := (hF.at 1 rfl).hi
  have HR := mono_ref ho rfl rfl rfl rfl
  clear ho hp hc m1 m2
  generalize Um.monoR lo hi p = R at *
  generalize Um.bestR lo hi p = B at *
  generalize Um.slopeR lo hi p = S at *
  generalize Um.hornR lo lo p = A at *
  generalize Um.hornR hi hi p = C at *
  rcases HR with ⟨hB, eR⟩ | ⟨hB, hS, hA, hC, ⟨eW, eR⟩ | ⟨eW, eR⟩ | ⟨eW, eR⟩⟩
  · have HX := hid eR
    have kB : (B.2.2 == 0) = false := by simpa using hB
    have jB : (B.2.2 != 0) = true := by simpa using hB
    clear hB eR
    obtain ⟨a0, cap0, rfl, -⟩ := (id hl)
    go_enter Tryd.func41, Tryd.ntmps41
    go_wp2_with (first | (go_at_call 36; refine (HB _ (hF.li hl)).out.mono ?_; rintro e wn ⟨rfl, hb⟩; replace hF := hF.step hb; clear hb; clear x1l x1h; clear HB; replace hF := (hF.push B.1 B.2.1 rfl).push 0 0 (b := wn.heap.size + 1) (by simp); have y1 := (hF.at 2 rfl).fl; have y2 := (hF.at 2 rfl).fh; have y3 := (hF.at 2 rfl).lo; have y4 := (hF.at 2 rfl).hi; have y6 := (hF.at 2 rfl).r0; have y7 := (hF.at 2 rfl).r1))
    refine bodyPost_ret (by simp [results, Tryd.results41, go_sem, y6, y7]; try rfl) rfl ?_
    rw [HX.out]
    exact ⟨rfl, (hF.put 2 rfl _ _ rfl).below⟩
  · rw [eW] at HW
    have HX := hid eR
    have kB : (B.2.2 == 0) = true := by simpa using hB
    have jB : (B.2.2 != 0) = false := by simpa using hB
    have kS : (S.2.2 == 0) = true := by simpa using hS
    have jS : (S.2.2 != 0) = false := by simpa using hS
    have kA : (A.2.2 == 0) = true := by simpa using hA
    have jA : (A.2.2 != 0) = false := by simpa using hA
    have kC : (C.2.2 == 0) = true := by simpa using hC
    have jC : (C.2.2 != 0) = false := by simpa using hC
    clear hB hS hA hC eR eW
    obtain ⟨a0, cap0, rfl, -⟩ := (id hl)
    go_enter Tryd.func41, Tryd.ntmps41
    go_wp2_with (first | (go_at_call 36; refine (HB _ (hF.li hl)).out.mono ?_; rintro e wn ⟨rfl, hb⟩; replace hF := hF.step hb; clear hb; clear x1l x1h; clear HB; replace hF := (hF.push B.1 B.2.1 rfl).push 0 0 (b := wn.heap.size + 1) (by simp); have x3l := (hF.at 3 rfl).lo; have x3h := (hF.at 3 rfl).hi) | (go_at_call 34; refine (HS _ (hF.li hl)).out.mono ?_; rintro e wn ⟨rfl, hb⟩; replace hF := hF.step hb; clear hb; clear x3l x3h; clear HS; have y1 := (hF.at 0 rfl).fl; have y2 := (hF.at 0 rfl).fh; have y3 := (hF.at 0 rfl).lo; have y4 := (hF.at 0 rfl).hi; replace hF := hF.put 0 rfl S.1 S.2.1 rfl; have x0l := (hF.at 0 rfl).lo; have x0h := (hF.at 0 rfl).hi) | (go_at_call 40; refine (HW _).out.mono ?_; rintro e wn ⟨rfl, hb⟩; replace hF := hF.step hb; clear hb; clear x0l x0h; clear HW; have x1l := (hF.at 1 rfl).lo; have x1h := (hF.at 1 rfl).hi; have s1 := (hF.at 2 rfl).fl; have s2 := (hF.at 2 rfl).fh; have s3 := (hF.at 2 rfl).lo; have s4 := (hF.at 2 rfl).hi; have y6 := (hF.at 2 rfl).r0; have y7 := (hF.at 2 rfl).r1))
    refine bodyPost_ret (by simp [results, Tryd.results41, go_sem, y6, y7]; try rfl) rfl ?_
    rw [HX.out]
    exact ⟨rfl, (hF.put 2 rfl _ _ rfl).below⟩
  · rw [eW] at HW
    have HX := hid eR
    have kB : (B.2.2 == 0) = true := by simpa using hB
    have jB : (B.2.2 != 0) = false := by simpa using hB
    have kS : (S.2.2 == 0) = true := by simpa using hS
    have jS : (S.2.2 != 0) = false := by simpa using hS
    have kA : (A.2.2 == 0) = true := by simpa using hA
    have jA : (A.2.2 != 0) = false := by simpa using hA
    have kC : (C.2.2 == 0) = true := by simpa using hC
    have jC : (C.2.2 != 0) = false := by simpa using hC
    clear hB hS hA hC eR eW
    obtain ⟨a0, cap0, rfl, -⟩ := (id hl)
    go_enter Tryd.func41, Tryd.ntmps41
    go_wp2_with (first | (go_at_call 36; refine (HB _ (hF.li hl)).out.mono ?_; rintro e wn ⟨rfl, hb⟩; replace hF := hF.step hb; clear hb; clear x1l x1h; clear HB; replace hF := (hF.push B.1 B.2.1 rfl).push 0 0 (b := wn.heap.size + 1) (by simp); have x3l := (hF.at 3 rfl).lo; have x3h := (hF.at 3 rfl).hi) | (go_at_call 34; refine (HS _ (hF.li hl)).out.mono ?_; rintro e wn ⟨rfl, hb⟩; replace hF := hF.step hb; clear hb; clear x3l x3h; clear HS; have y1 := (hF.at 0 rfl).fl; have y2 := (hF.at 0 rfl).fh; have y3 := (hF.at 0 rfl).lo; have y4 := (hF.at 0 rfl).hi; replace hF := hF.put 0 rfl S.1 S.2.1 rfl; have x0l := (hF.at 0 rfl).lo; have x0h := (hF.at 0 rfl).hi) | (go_at_call 40; refine (HW _).out.mono ?_; rintro e wn ⟨rfl, hb⟩; replace hF := hF.step hb; clear hb; clear x0l x0h; clear HW; have x3l := (hF.at 3 rfl).lo; have x3h := (hF.at 3 rfl).hi) | (go_at_call 65; refine (rAlone_any _ _).mono ?_; rintro e wn ⟨rfl, hb⟩; replace hF := hF.step hb; clear hb; clear x3l x3h; have x3l := (hF.at 3 rfl).lo; have x3h := (hF.at 3 rfl).hi) | (go_at_call 27; refine (HA _ (hF.li hl)).out.mono ?_; rintro e wn ⟨rfl, hb⟩; replace hF := hF.step hb; clear hb; clear x3l x3h; clear HA; replace hF := hF.push A.1 A.2.1 rfl; have x4l := (hF.at 4 rfl).lo; have x4h := (hF.at 4 rfl).hi) | (go_at_call 65; refine (rAlone_any _ _).mono ?_; rintro e wn ⟨rfl, hb⟩; replace hF := hF.step hb; clear hb; clear x4l x4h; have x4l := (hF.at 4 rfl).lo; have x4h := (hF.at 4 rfl).hi) | (go_at_call 27; refine (HC _ (hF.li hl)).out.mono ?_; rintro e wn ⟨rfl, hb⟩; replace hF := hF.step hb; clear hb; clear x4l x4h; clear HC; replace hF := hF.push C.1 C.2.1 rfl; have x0l := (hF.at 0 rfl).lo; have x0h := (hF.at 0 rfl).hi; have x1l := (hF.at 1 rfl).lo; have x1h := (hF.at 1 rfl).hi; have s1 := (hF.at 4 rfl).fl; have s2 := (hF.at 4 rfl).fh; have s3 := (hF.at 4 rfl).lo; have s4 := (hF.at 4 rfl).hi; have y6 := (hF.at 4 rfl).r0; have y7 := (hF.at 4 rfl).r1))
    refine bodyPost_ret (by simp [results, Tryd.results41, go_sem, y6, y7]; try rfl) rfl ?_
    rw [HX.out]
    exact ⟨rfl, (hF.put 4 rfl _ _ rfl).below⟩
  · rw [eW] at HW
    have HX := hid eR
    have kB : (B.2.2 == 0) = true := by simpa using hB
    have jB : (B.2.2 != 0) = false := by simpa using hB
    have kS : (S.2.2 == 0) = true := by simpa using hS
    have jS : (S.2.2 != 0) = false := by simpa using hS
    have kA : (A.2.2 == 0) = true := by simpa using hA
    have jA : (A.2.2 != 0) = false := by simpa using hA
    have kC : (C.2.2 == 0) = true := by simpa using hC
    have jC : (C.2.2 != 0) = false := by simpa using hC
    clear hB hS hA hC eR eW
    obtain ⟨a0, cap0, rfl, -⟩ := (id hl)
    go_enter Tryd.func41, Tryd.ntmps41
    go_wp2_with (first | (go_at_call 36; refine (HB _ (hF.li hl)).out.mono ?_; rintro e wn ⟨rfl, hb⟩; replace hF := hF.step hb; clear hb; clear x1l x1h; clear HB; replace hF := (hF.push B.1 B.2.1 rfl).push 0 0 (b := wn.heap.size + 1) (by simp); have x3l := (hF.at 3 rfl).lo; have x3h := (hF.at 3 rfl).hi) | (go_at_call 34; refine (HS _ (hF.li hl)).out.mono ?_; rintro e wn ⟨rfl, hb⟩; replace hF := hF.step hb; clear hb; clear x3l x3h; clear HS; have y1 := (hF.at 0 rfl).fl; have y2 := (hF.at 0 rfl).fh; have y3 := (hF.at 0 rfl).lo; have y4 := (hF.at 0 rfl).hi; replace hF := hF.put 0 rfl S.1 S.2.1 rfl; have x0l := (hF.at 0 rfl).lo; have x0h := (hF.at 0 rfl).hi) | (go_at_call 40; refine (HW _).out.mono ?_; rintro e wn ⟨rfl, hb⟩; replace hF := hF.step hb; clear hb; clear x0l x0h; clear HW; have x3l := (hF.at 3 rfl).lo; have x3h := (hF.at 3 rfl).hi) | (go_at_call 65; refine (rAlone_any _ _).mono ?_; rintro e wn ⟨rfl, hb⟩; replace hF := hF.step hb; clear hb; clear x3l x3h; have x3l := (hF.at 3 rfl).lo; have x3h := (hF.at 3 rfl).hi) | (go_at_call 27; refine (HA _ (hF.li hl)).out.mono ?_; rintro e wn ⟨rfl, hb⟩; replace hF := hF.step hb; clear hb; clear x3l x3h; clear HA; replace hF := hF.push A.1 A.2.1 rfl; have x4l := (hF.at 4 rfl).lo; have x4h := (hF.at 4 rfl).hi) | (go_at_call 65; refine (rAlone_any _ _).mono ?_; rintro e wn ⟨rfl, hb⟩; replace hF := hF.step hb; clear hb; clear x4l x4h; have x4l := (hF.at 4 rfl).lo; have x4h := (hF.at 4 rfl).hi) | (go_at_call 27; refine (HC _ (hF.li hl)).out.mono ?_; rintro e wn ⟨rfl, hb⟩; replace hF := hF.step hb; clear hb; clear x4l x4h; clear HC; replace hF := hF.push C.1 C.2.1 rfl; have x0l := (hF.at 0 rfl).lo; have x0h := (hF.at 0 rfl).hi; have x1l := (hF.at 1 rfl).lo; have x1h := (hF.at 1 rfl).hi; have s1 := (hF.at 4 rfl).fl; have s2 := (hF.at 4 rfl).fh; have s3 := (hF.at 4 rfl).lo; have s4 := (hF.at 4 rfl).hi; have y6 := (hF.at 4 rfl).r0; have y7 := (hF.at 4 rfl).r1))
    refine bodyPost_ret (by simp [results, Tryd.results41, go_sem, y6, y7]; try rfl) rfl ?_
    rw [HX.out]
    exact ⟨rfl, (hF.put 4 rfl _ _ rfl).below⟩
end Go.Proofs.YtfmjndipanlcoaaDoor
