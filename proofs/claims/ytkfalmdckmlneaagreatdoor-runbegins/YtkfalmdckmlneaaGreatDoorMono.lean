/-
  What package mono answers: Way, fromTo, Range, at every argument.
-/
import Derived.Test.YtkfalmdckmlneaaGreatDoorCenter
import Derived.Test.YtkfalmdckmlneaaGreatDoorMaths
namespace Um
set_option linter.unusedSimpArgs false
theorem mono_none {p : List Int} {lo hi : Int} (h : ¬ (bestAll p lo hi).2.2 = 0) : monoAll p lo hi = (0, 0, (bestAll p lo hi).2.2) := by
  unfold monoAll bestAll at *
  by_cases ho : over p lo hi = 0
  · rw [if_pos ho] at h ⊢
    rw [if_pos ho, (best_fault lo hi p).resolve_left h]
    unfold monoR
    rw [if_neg h]
  · rw [if_neg ho, if_neg ho]
theorem mono_some {p : List Int} {lo hi : Int} (h : (bestAll p lo hi).2.2 = 0) : over p lo hi = 0 ∧
    ((wayAll p lo hi = (1, 0) ∧ monoAll p lo hi = endsR lo hi p) ∨ (wayAll p lo hi = (-1, 0) ∧ monoAll p lo hi = endsR hi lo p) ∨ (wayAll p lo hi = (0, 0) ∧ monoAll p lo hi = bestAll p lo hi)) := by
  by_cases ho : over p lo hi = 0
  · refine ⟨ho, ?_⟩
    unfold wayAll monoAll slopeAll bestAll at *
    rw [if_pos ho] at h
    rw [if_pos ho, if_pos ho, if_pos ho, if_pos (best_slope h)]
    unfold monoR
    rw [if_pos h]
    rcases way_cases (slopeR lo hi p).1 (slopeR lo hi p).2.1 with ⟨_, e⟩ | ⟨_, _, e⟩ | ⟨_, _, e⟩
    · rw [e]; exact .inl ⟨rfl, rfl⟩
    · rw [e]; exact .inr (.inl ⟨rfl, rfl⟩)
    · rw [e]; exact .inr (.inr ⟨rfl, rfl⟩)
  · unfold bestAll at h; rw [if_neg ho] at h; exact absurd h ho
end Um
namespace Go.Proofs.YtkfalmdckmlneaaGreatDoor
set_option linter.unusedSimpArgs false
open Go.RowKit

set_option maxRecDepth 100000 in
set_option maxHeartbeats 2000000 in
theorem way_any (p : List Int) (v : Value) (lo hi : Int) (w : World) (hl : Li w.heap.size w v p) :
    Calls Tryz.prog 97 #[v, .agg #[.int .i64 lo, .int .i64 hi]] w fun e w' => e = .returned (.tuple #[.int .i64 (Um.wayAll p lo hi).1, errV (Um.wayAll p lo hi).2]) ∧ Below w.heap.size w w' := by
  have v0 := errV_none
  have q1 := errG
  have q2 := errGn
  have q3 := errE
  have q4 := errN
  have HS := fun w hl => hid (slope_any p v lo hi w hl)
  have hF := (Fr.start w).push lo hi rfl
  have x0l := (hF.at 0 rfl).lo
  have x0h := (hF.at 0 rfl).hi
  have HR : Hid (Um.wayAll p lo hi = if (Um.slopeAll p lo hi).2.2 = 0 then (Um.wayR (Um.slopeAll p lo hi).1 (Um.slopeAll p lo hi).2.1, 0) else (0, (Um.slopeAll p lo hi).2.2)) := hid rfl
  generalize Um.wayAll p lo hi = R at *
  generalize Um.slopeAll p lo hi = S at *
  by_cases h : S.2.2 = 0
  · have k : (S.2.2 != 0) = false := by simpa using h
    rcases Um.way_cases S.1 S.2.1 with ⟨u1, e⟩ | ⟨u1, u2, e⟩ | ⟨u1, u2, e⟩
    · have HX : Hid (R = (1, 0)) := by rw [HR.out, if_pos h, e]; rfl
      have t1 : decide (0 ≤ S.1) = true := by simpa using u1
      clear h u1 e
      clear HR
      obtain ⟨a0, cap0, rfl, -⟩ := (id hl)
      go_enter Tryz.func97, Tryz.ntmps97
      go_wp2_with (first | (go_at_call 122; refine (HS _ (hF.li hl)).out.mono ?_; rintro e wn ⟨rfl, hb⟩; replace hF := hF.step hb; clear hb; clear x0l x0h; replace hF := hF.push S.1 S.2.1 rfl; have x0l := (hF.at 0 rfl).lo; have x0h := (hF.at 0 rfl).hi))
      go_returns
      rw [HX.out]
      exact ⟨rfl, hF.below⟩
    · have HX : Hid (R = (-1, 0)) := by rw [HR.out, if_pos h, e]; rfl
      have t1 : decide (0 ≤ S.1) = false := by simpa using u1
      have t2 : decide (S.2.1 ≤ 0) = true := by simpa using u2
      clear h u1 u2 e
      clear HR
      obtain ⟨a0, cap0, rfl, -⟩ := (id hl)
      go_enter Tryz.func97, Tryz.ntmps97
      go_wp2_with (first | (go_at_call 122; refine (HS _ (hF.li hl)).out.mono ?_; rintro e wn ⟨rfl, hb⟩; replace hF := hF.step hb; clear hb; clear x0l x0h; replace hF := hF.push S.1 S.2.1 rfl; have x0l := (hF.at 0 rfl).lo; have x0h := (hF.at 0 rfl).hi))
      go_returns
      rw [HX.out]
      exact ⟨rfl, hF.below⟩
    · have HX : Hid (R = (0, 0)) := by rw [HR.out, if_pos h, e]; rfl
      have t1 : decide (0 ≤ S.1) = false := by simpa using u1
      have t2 : decide (S.2.1 ≤ 0) = false := by simpa using u2
      clear h u1 u2 e
      clear HR
      obtain ⟨a0, cap0, rfl, -⟩ := (id hl)
      go_enter Tryz.func97, Tryz.ntmps97
      go_wp2_with (first | (go_at_call 122; refine (HS _ (hF.li hl)).out.mono ?_; rintro e wn ⟨rfl, hb⟩; replace hF := hF.step hb; clear hb; clear x0l x0h; replace hF := hF.push S.1 S.2.1 rfl; have x0l := (hF.at 0 rfl).lo; have x0h := (hF.at 0 rfl).hi))
      go_returns
      rw [HX.out]
      exact ⟨rfl, hF.below⟩
  · have k : (S.2.2 != 0) = true := by simpa using h
    have HX : Hid (R = (0, S.2.2)) := by rw [HR.out, if_neg h]; rfl
    clear h
    clear HR
    obtain ⟨a0, cap0, rfl, -⟩ := (id hl)
    go_enter Tryz.func97, Tryz.ntmps97
    go_wp2_with (first | (go_at_call 122; refine (HS _ (hF.li hl)).out.mono ?_; rintro e wn ⟨rfl, hb⟩; replace hF := hF.step hb; clear hb; clear x0l x0h; replace hF := hF.push S.1 S.2.1 rfl; have x0l := (hF.at 0 rfl).lo; have x0h := (hF.at 0 rfl).hi))
    go_returns
    rw [HX.out]
    exact ⟨rfl, hF.below⟩

set_option maxRecDepth 100000 in
set_option maxHeartbeats 4000000 in
theorem fromTo_any (p : List Int) (v : Value) (a b : Int) (w : World) (hl : Li w.heap.size w v p) (hp : Um.pchk p = 0) (ha : Um.may a = true) (hb' : Um.may b = true) :
    Calls Tryz.prog 98 #[v, .int .i64 a, .int .i64 b] w fun e w' => e = .returned (.tuple #[.agg #[.int .i64 (Um.endsR a b p).1, .int .i64 (Um.endsR a b p).2.1], errV (Um.endsR a b p).2.2]) ∧ Below w.heap.size w w' := by
  have v0 := errV_none
  have q1 := errG
  have q2 := errGn
  have q3 := errE
  have q4 := errN
  have HA := fun w hl => hid (horner_any p v a a w hl)
  have HB := fun w hl => hid (horner_any p v b b w hl)
  have e1 : Um.hornAll p a a = Um.hornR a a p := by unfold Um.hornAll; rw [if_pos (Um.over_ok.2 ⟨hp, Um.chk_alone ha⟩)]
  have e2 : Um.hornAll p b b = Um.hornR b b p := by unfold Um.hornAll; rw [if_pos (Um.over_ok.2 ⟨hp, Um.chk_alone hb'⟩)]
  have f1 := Um.horn_fault a a p
  have f2 := Um.horn_fault b b p
  rw [e1] at HA
  rw [e2] at HB
  have HR : Hid (Um.endsR a b p = if (Um.hornR a a p).2.2 = 0 then (if (Um.hornR b b p).2.2 = 0 then ((Um.hornR a a p).1, (Um.hornR b b p).2.1, 0) else (0, 0, 4)) else (0, 0, 4)) := hid rfl
  have hF := (Fr.start w).push 0 0 rfl
  clear e1 e2 hp ha hb'
  generalize Um.endsR a b p = R at *
  generalize Um.hornR a a p = A at *
  generalize Um.hornR b b p = B at *
  by_cases hA : A.2.2 = 0
  · have kA : (A.2.2 != 0) = false := by simpa using hA
    clear f1
    by_cases hB : B.2.2 = 0
    · have kB : (B.2.2 != 0) = false := by simpa using hB
      clear f2
      have HX : Hid (R = (A.1, B.2.1, 0)) := by rw [HR.out, if_pos hA, if_pos hB]; rfl
      clear HR hA hB
      obtain ⟨a0, cap0, rfl, -⟩ := (id hl)
      go_enter Tryz.func98, Tryz.ntmps98
      go_wp2_with (first | (go_at_call 123; refine (alone_any _ _).mono ?_; rintro e wa ⟨rfl, rfl⟩) | (go_at_call 119; refine (HA _ ((hF.alloc _).li hl)).out.mono ?_; rintro e wn ⟨rfl, hb⟩; replace hF := (hF.alloc _).step hb; clear hb; clear HA; replace hF := hF.push A.1 A.2.1 rfl) | (go_at_call 119; refine (HB _ ((hF.alloc _).li hl)).out.mono ?_; rintro e wn ⟨rfl, hb⟩; replace hF := (hF.alloc _).step hb; clear hb; clear HB; replace hF := hF.push B.1 B.2.1 rfl; have x0l := (hF.at 0 rfl).lo; have x0h := (hF.at 0 rfl).hi; have x1l := (hF.at 1 rfl).lo; have x1h := (hF.at 1 rfl).hi; have y1 := (hF.at 2 rfl).fl; have y2 := (hF.at 2 rfl).fh; have y3 := (hF.at 2 rfl).lo; have y4 := (hF.at 2 rfl).hi; have y6 := (hF.at 2 rfl).r0; have y7 := (hF.at 2 rfl).r1))
      refine bodyPost_ret (by simp [results, Tryz.results98, go_sem, y6, y7]; try rfl) rfl ?_
      rw [HX.out]
      exact ⟨rfl, (hF.put 2 rfl _ _ rfl).below⟩
    · have kB : (B.2.2 != 0) = true := by simpa using hB
      have eB := f2.resolve_left hB
      clear f2
      have HX : Hid (R = (0, 0, B.2.2)) := by rw [HR.out, if_pos hA, if_neg hB, eB]; rfl
      clear eB
      clear HR hA hB
      obtain ⟨a0, cap0, rfl, -⟩ := (id hl)
      go_enter Tryz.func98, Tryz.ntmps98
      go_wp2_with (first | (go_at_call 123; refine (alone_any _ _).mono ?_; rintro e wa ⟨rfl, rfl⟩) | (go_at_call 119; refine (HA _ ((hF.alloc _).li hl)).out.mono ?_; rintro e wn ⟨rfl, hb⟩; replace hF := (hF.alloc _).step hb; clear hb; clear HA; replace hF := hF.push A.1 A.2.1 rfl) | (go_at_call 119; refine (HB _ ((hF.alloc _).li hl)).out.mono ?_; rintro e wn ⟨rfl, hb⟩; replace hF := (hF.alloc _).step hb; clear hb; clear HB; have y1 := (hF.at 1 rfl).fl; have y2 := (hF.at 1 rfl).fh; have y3 := (hF.at 1 rfl).lo; have y4 := (hF.at 1 rfl).hi; have y5 := (hF.at 1 rfl).lt; have y6 := (((hF.at 1 rfl).set 0 0).alloc (.cells #[.int .i64 B.1, .int .i64 B.2.1] 29)).lo; have y7 := (((hF.at 1 rfl).set 0 0).alloc (.cells #[.int .i64 B.1, .int .i64 B.2.1] 29)).hi))
      refine bodyPost_ret (by simp [results, Tryz.results98, go_sem, y6, y7]; try rfl) rfl ?_
      rw [HX.out]
      exact ⟨rfl, ((hF.put 1 rfl _ _ rfl).alloc _).below⟩
  · have kA : (A.2.2 != 0) = true := by simpa using hA
    have eA := f1.resolve_left hA
    clear f1 f2
    have HX : Hid (R = (0, 0, A.2.2)) := by rw [HR.out, if_neg hA, eA]; rfl
    clear eA
    clear HR hA
    obtain ⟨a0, cap0, rfl, -⟩ := (id hl)
    go_enter Tryz.func98, Tryz.ntmps98
    go_wp2_with (first | (go_at_call 123; refine (alone_any _ _).mono ?_; rintro e wa ⟨rfl, rfl⟩) | (go_at_call 119; refine (HA _ ((hF.alloc _).li hl)).out.mono ?_; rintro e wn ⟨rfl, hb⟩; replace hF := (hF.alloc _).step hb; clear hb; clear HA; have y1 := (hF.at 0 rfl).fl; have y2 := (hF.at 0 rfl).fh; have y3 := (hF.at 0 rfl).lo; have y4 := (hF.at 0 rfl).hi; have y5 := (hF.at 0 rfl).lt; have y6 := (((hF.at 0 rfl).set 0 0).alloc (.cells #[.int .i64 A.1, .int .i64 A.2.1] 29)).lo; have y7 := (((hF.at 0 rfl).set 0 0).alloc (.cells #[.int .i64 A.1, .int .i64 A.2.1] 29)).hi))
    refine bodyPost_ret (by simp [results, Tryz.results98, go_sem, y6, y7]; try rfl) rfl ?_
    rw [HX.out]
    exact ⟨rfl, ((hF.put 0 rfl _ _ rfl).alloc _).below⟩

set_option maxRecDepth 100000 in
set_option maxHeartbeats 4000000 in
theorem mrange_any (p : List Int) (v : Value) (lo hi : Int) (w : World) (hl : Li w.heap.size w v p) :
    Calls Tryz.prog 65 #[v, .agg #[.int .i64 lo, .int .i64 hi]] w fun e w' => e = .returned (.tuple #[.agg #[.int .i64 (Um.monoAll p lo hi).1, .int .i64 (Um.monoAll p lo hi).2.1], errV (Um.monoAll p lo hi).2.2]) ∧ Below w.heap.size w w' := by
  have v0 := errV_none
  have q1 := errG
  have q2 := errGn
  have q3 := errE
  have q4 := errN
  have HB := fun w hl => hid (best_any p v lo hi w hl)
  have HW := fun w hl => hid (way_any p v lo hi w hl)
  have hF := Fr.two w lo hi
  have x1l := (hF.at 1 rfl).lo
  have x1h := (hF.at 1 rfl).hi
  by_cases h : (Um.bestAll p lo hi).2.2 = 0
  · have k : ((Um.bestAll p lo hi).2.2 != 0) = false := by simpa using h
    obtain ⟨ho, hw⟩ := Um.mono_some h
    obtain ⟨hp, hc⟩ := Um.over_ok.1 ho
    obtain ⟨m1, m2, -⟩ := Um.chk_ok.1 hc
    rcases hw with ⟨e1, e2⟩ | ⟨e1, e2⟩ | ⟨e1, e2⟩
    · have HT := fun w hl => hid (fromTo_any p v lo hi w hl hp m1 m2)
      rw [e1] at HW
      have HX := hid e2
      clear h ho hp hc m1 m2 e1 e2
      generalize Um.monoAll p lo hi = R at *
      generalize Um.bestAll p lo hi = B at *
      generalize Um.endsR lo hi p = N at *
      obtain ⟨a0, cap0, rfl, -⟩ := (id hl)
      go_enter Tryz.func65, Tryz.ntmps65
      go_wp2_with (first | (go_at_call 96; refine (HB _ (hF.li hl)).out.mono ?_; rintro e wn ⟨rfl, hb⟩; replace hF := hF.step hb; clear hb; clear x1l x1h; replace hF := hF.push B.1 B.2.1 rfl; have x2l := (hF.at 2 rfl).lo; have x2h := (hF.at 2 rfl).hi) | (go_at_call 97; refine (HW _ (hF.li hl)).out.mono ?_; rintro e wn ⟨rfl, hb⟩; replace hF := hF.step hb; clear hb; clear x2l x2h; have x2l := (hF.at 2 rfl).lo; have x2h := (hF.at 2 rfl).hi) | (go_at_call 98; refine (HT _ (hF.li hl)).out.mono ?_; rintro e wn ⟨rfl, hb⟩; replace hF := hF.step hb; clear hb; clear x2l x2h; have y1 := (hF.at 1 rfl).fl; have y2 := (hF.at 1 rfl).fh; have y3 := (hF.at 1 rfl).lo; have y4 := (hF.at 1 rfl).hi; have y6 := (hF.at 1 rfl).r0; have y7 := (hF.at 1 rfl).r1))
      refine bodyPost_ret (by simp [results, Tryz.results65, go_sem, y6, y7]; try rfl) rfl ?_
      rw [HX.out]
      exact ⟨rfl, (hF.put 1 rfl _ _ rfl).below⟩
    · have HT := fun w hl => hid (fromTo_any p v hi lo w hl hp m2 m1)
      rw [e1] at HW
      have HX := hid e2
      clear h ho hp hc m1 m2 e1 e2
      generalize Um.monoAll p lo hi = R at *
      generalize Um.bestAll p lo hi = B at *
      generalize Um.endsR hi lo p = N at *
      obtain ⟨a0, cap0, rfl, -⟩ := (id hl)
      go_enter Tryz.func65, Tryz.ntmps65
      go_wp2_with (first | (go_at_call 96; refine (HB _ (hF.li hl)).out.mono ?_; rintro e wn ⟨rfl, hb⟩; replace hF := hF.step hb; clear hb; clear x1l x1h; replace hF := hF.push B.1 B.2.1 rfl; have x2l := (hF.at 2 rfl).lo; have x2h := (hF.at 2 rfl).hi) | (go_at_call 97; refine (HW _ (hF.li hl)).out.mono ?_; rintro e wn ⟨rfl, hb⟩; replace hF := hF.step hb; clear hb; clear x2l x2h; have x2l := (hF.at 2 rfl).lo; have x2h := (hF.at 2 rfl).hi) | (go_at_call 98; refine (HT _ (hF.li hl)).out.mono ?_; rintro e wn ⟨rfl, hb⟩; replace hF := hF.step hb; clear hb; clear x2l x2h; have y1 := (hF.at 1 rfl).fl; have y2 := (hF.at 1 rfl).fh; have y3 := (hF.at 1 rfl).lo; have y4 := (hF.at 1 rfl).hi; have y6 := (hF.at 1 rfl).r0; have y7 := (hF.at 1 rfl).r1))
      refine bodyPost_ret (by simp [results, Tryz.results65, go_sem, y6, y7]; try rfl) rfl ?_
      rw [HX.out]
      exact ⟨rfl, (hF.put 1 rfl _ _ rfl).below⟩
    · rw [e1] at HW
      have HX : Hid (Um.monoAll p lo hi = ((Um.bestAll p lo hi).1, (Um.bestAll p lo hi).2.1, 0)) := by rw [e2]; exact hid (by rw [← h])
      clear h ho hp hc m1 m2 e1 e2
      generalize Um.monoAll p lo hi = R at *
      generalize Um.bestAll p lo hi = B at *
      obtain ⟨a0, cap0, rfl, -⟩ := (id hl)
      go_enter Tryz.func65, Tryz.ntmps65
      go_wp2_with (first | (go_at_call 96; refine (HB _ (hF.li hl)).out.mono ?_; rintro e wn ⟨rfl, hb⟩; replace hF := hF.step hb; clear hb; clear x1l x1h; replace hF := hF.push B.1 B.2.1 rfl; have x2l := (hF.at 2 rfl).lo; have x2h := (hF.at 2 rfl).hi) | (go_at_call 97; refine (HW _ (hF.li hl)).out.mono ?_; rintro e wn ⟨rfl, hb⟩; replace hF := hF.step hb; clear hb; clear x2l x2h; have x0l := (hF.at 0 rfl).lo; have x0h := (hF.at 0 rfl).hi; have y1 := (hF.at 1 rfl).fl; have y2 := (hF.at 1 rfl).fh; have y3 := (hF.at 1 rfl).lo; have y4 := (hF.at 1 rfl).hi; have y6 := (hF.at 1 rfl).r0; have y7 := (hF.at 1 rfl).r1))
      refine bodyPost_ret (by simp [results, Tryz.results65, go_sem, y6, y7]; try rfl) rfl ?_
      rw [HX.out]
      exact ⟨rfl, (hF.put 1 rfl _ _ rfl).below⟩
  · have k : ((Um.bestAll p lo hi).2.2 != 0) = true := by simpa using h
    have HX := hid (Um.mono_none h)
    clear h
    generalize Um.monoAll p lo hi = R at *
    generalize Um.bestAll p lo hi = B at *
    obtain ⟨a0, cap0, rfl, -⟩ := (id hl)
    go_enter Tryz.func65, Tryz.ntmps65
    go_wp2_with (first | (go_at_call 96; refine (HB _ (hF.li hl)).out.mono ?_; rintro e wn ⟨rfl, hb⟩; replace hF := hF.step hb; clear hb; clear x1l x1h; have y1 := (hF.at 0 rfl).fl; have y2 := (hF.at 0 rfl).fh; have y3 := (hF.at 0 rfl).lo; have y4 := (hF.at 0 rfl).hi; have y5 := (hF.at 0 rfl).lt; have y6 := (((hF.at 0 rfl).set 0 0).alloc (.cells #[.int .i64 B.1, .int .i64 B.2.1] 29)).lo; have y7 := (((hF.at 0 rfl).set 0 0).alloc (.cells #[.int .i64 B.1, .int .i64 B.2.1] 29)).hi))
    refine bodyPost_ret (by simp [results, Tryz.results65, go_sem, y6, y7]; try rfl) rfl ?_
    rw [HX.out]
    exact ⟨rfl, ((hF.put 0 rfl _ _ rfl).alloc _).below⟩
end Go.Proofs.YtkfalmdckmlneaaGreatDoor
