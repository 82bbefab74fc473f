/-
  What the document's answer (package spanref1) to a step nearer is: Newton, of what is right.
-/
import Derived.Test.YtkfalmdckmlneaaGreatDoorRefs2
import Derived.Test.YtkfalmdckmlneaaGreatDoorMaths
namespace Go.Proofs.YtkfalmdckmlneaaGreatDoor
set_option linter.unusedSimpArgs false
open Go.RowKit

theorem newt_ref {p : List Int} {lo hi : Int} {H D Q S M : Int × Int × Int} (eH : Um.hornR (Um.midR lo hi) (Um.midR lo hi) p = H) (eD : Um.slopeR lo hi p = D) (eQ : Um.sbyR H.1 H.2.1 D.1 D.2.1 = Q) (eS : Um.lessR (Um.midR lo hi) (Um.midR lo hi) Q.1 Q.2.1 = S) (eM : Um.meetR S.1 S.2.1 lo hi = M) :
    Um.newtR lo hi p = if H.2.2 = 0 then (if D.2.2 = 0 then (if Q.2.2 = 0 then (if S.2.2 = 0 then (if M.2.2 = 0 then (M.1, M.2.1, 0) else (0, 0, M.2.2)) else (0, 0, S.2.2)) else (0, 0, Q.2.2)) else (0, 0, D.2.2)) else (0, 0, H.2.2) := by
  have fH := Um.horn_fault (Um.midR lo hi) (Um.midR lo hi) p
  have fD := Um.slope_fault lo hi p
  have fS := Um.less_fault (Um.midR lo hi) (Um.midR lo hi) Q.1 Q.2.1
  have fM := Um.meet_fault S.1 S.2.1 lo hi
  rw [eH] at fH
  rw [eD] at fD
  rw [eS] at fS
  rw [eM] at fM
  rw [Um.newt_is eH eD eQ eS, eM]
  by_cases h1 : H.2.2 = 0
  · rw [if_pos h1, if_pos h1]
    by_cases h2 : D.2.2 = 0
    · rw [if_pos h2, if_pos h2]
      by_cases h3 : Q.2.2 = 0
      · rw [if_pos h3, if_pos h3]
        by_cases h4 : S.2.2 = 0
        · rw [if_pos h4, if_pos h4]
          by_cases h5 : M.2.2 = 0
          · rw [if_pos h5]; exact Prod.ext rfl (Prod.ext rfl h5)
          · rw [if_neg h5, fM.resolve_left h5]
        · rw [if_neg h4, if_neg h4, fS.resolve_left h4]
      · rw [if_neg h3, if_neg h3]
    · rw [if_neg h2, if_neg h2, fD.resolve_left h2]
  · rw [if_neg h1, if_neg h1, fH.resolve_left h1]

set_option maxRecDepth 100000 in
set_option maxHeartbeats 8000000 in
theorem rNewton_any (p : List Int) (v : Value) (lo hi : Int) (w : World) (hl : Li w.heap.size w v p) (ho : Um.over p lo hi = 0) :
    Calls Tryz.prog 29 #[v, .agg #[.int .i64 lo, .int .i64 hi]] w fun e w' => e = .returned (.tuple #[.agg #[.int .i64 (Um.newtR lo hi p).1, .int .i64 (Um.newtR lo hi p).2.1], .int .i64 (Um.newtR lo hi p).2.2]) ∧ Below w.heap.size w w' := by
  obtain ⟨hp, hc⟩ := Um.over_ok.1 ho
  have hp' := Um.pchk_ok.1 hp
  have hm := Um.mid_may hc
  obtain ⟨m1, m2, hle⟩ := Um.chk_ok.1 hc
  obtain ⟨a1, a2⟩ := (Um.may_iff _).1 m1
  obtain ⟨a3, a4⟩ := (Um.may_iff _).1 m2
  have HM := fun w => hid (rMiddle_any lo hi w a1 a2 a3 a4)
  have HS := fun w hl => hid (rSlope_any p v lo hi w hl ho)
  have HH := fun w hl => hid (rHorner_any p v (Um.midR lo hi) (Um.midR lo hi) w hl (Um.over_ok.2 ⟨hp, Um.chk_alone hm⟩))
  have cH := Um.horn_chk (Int.le_refl (Um.midR lo hi)) p hp'.1 hp'.2.2
  have cD := Um.slope_chk (p := p) hle
  have hF := Fr.two w lo hi
  have x1l := (hF.at 1 rfl).lo
  have x1h := (hF.at 1 rfl).hi
  obtain ⟨Q, eQ⟩ : ∃ Q, Um.sbyR (Um.hornR (Um.midR lo hi) (Um.midR lo hi) p).1 (Um.hornR (Um.midR lo hi) (Um.midR lo hi) p).2.1 (Um.slopeR lo hi p).1 (Um.slopeR lo hi p).2.1 = Q := ⟨_, rfl⟩
  obtain ⟨S, eS⟩ : ∃ S, Um.lessR (Um.midR lo hi) (Um.midR lo hi) Q.1 Q.2.1 = S := ⟨_, rfl⟩
  obtain ⟨M, eM⟩ : ∃ M, Um.meetR S.1 S.2.1 lo hi = M := ⟨_, rfl⟩
  have HT := fun w => hid (rMeet_any S.1 S.2.1 lo hi w)
  rw [eM] at HT
  have HR := hid (newt_ref (p := p) (lo := lo) (hi := hi) rfl rfl eQ eS eM)
  clear ho hp hp' hc m1 m2 hle a1 a2 a3 a4 eM
  generalize Um.newtR lo hi p = R at *
  generalize Um.hornR (Um.midR lo hi) (Um.midR lo hi) p = H at *
  generalize Um.slopeR lo hi p = D at *
  generalize Um.midR lo hi = m at *
  by_cases hH : H.2.2 = 0
  · by_cases hD : D.2.2 = 0
    · by_cases hQ : Q.2.2 = 0
      · by_cases hS : S.2.2 = 0
        · by_cases hM : M.2.2 = 0
          · have HX : Hid (R = (M.1, M.2.1, 0)) := by rw [HR.out, if_pos hH, if_pos hD, if_pos hQ, if_pos hS, if_pos hM]; rfl
            have HB := fun w => hid (rBy_um H.1 H.2.1 D.1 D.2.1 w (Um.chk_ok.1 (cH hH)).1 (Um.chk_ok.1 (cH hH)).2.1 (Um.chk_ok.1 (cD hD)).1 (Um.chk_ok.1 (cD hD)).2.2)
            rw [eQ] at HB
            have cQ := Um.sby_chk (Um.chk_ok.1 (cD hD)).2.2 (by rw [eQ]; exact hQ)
            rw [eQ] at cQ
            have HL := fun w => hid (rLess_any m m Q.1 Q.2.1 w hm hm (Um.chk_ok.1 cQ).1 (Um.chk_ok.1 cQ).2.1)
            rw [eS] at HL
            clear cQ
            have kH : (H.2.2 == 0) = true := by simpa using hH
            have jH : (H.2.2 != 0) = false := by simpa using hH
            have kD : (D.2.2 == 0) = true := by simpa using hD
            have jD : (D.2.2 != 0) = false := by simpa using hD
            have kQ : (Q.2.2 == 0) = true := by simpa using hQ
            have jQ : (Q.2.2 != 0) = false := by simpa using hQ
            have kS : (S.2.2 == 0) = true := by simpa using hS
            have jS : (S.2.2 != 0) = false := by simpa using hS
            have kM : (M.2.2 == 0) = true := by simpa using hM
            have jM : (M.2.2 != 0) = false := by simpa using hM
            clear HR hH hD hQ hS hM cH cD eQ eS hm
            obtain ⟨a0, cap0, rfl, -⟩ := (id hl)
            go_enter Tryz.func29, Tryz.ntmps29
            go_wp2_with (first | (go_at_call 52; refine (HM _).out.mono ?_; rintro e wn ⟨rfl, rfl⟩) | (go_at_call 51; refine (hid (rAlone_any _ _)).out.mono ?_; rintro e wn ⟨rfl, hb⟩; replace hF := (hF.alloc _).step hb; clear hb; clear x1l x1h; replace hF := hF.push m m rfl; have x0l := (hF.at 0 rfl).lo; have x0h := (hF.at 0 rfl).hi) | (go_at_call 50; refine (HH _ (hF.li hl)).out.mono ?_; rintro e wn ⟨rfl, hb⟩; replace hF := hF.step hb; clear hb; clear x0l x0h; replace hF := (((hF.push H.1 H.2.1 rfl).push 0 0 (b := wn.heap.size + 1) (by simp)).push 0 0 (b := wn.heap.size + 1 + 1) (by simp)).push 0 0 (b := wn.heap.size + 1 + 1 + 1) (by simp); have x6l := (hF.at 6 rfl).lo; have x6h := (hF.at 6 rfl).hi) | (go_at_call 48; refine (HS _ (hF.li hl)).out.mono ?_; rintro e wn ⟨rfl, hb⟩; replace hF := hF.step hb; clear hb; clear x6l x6h; have y1 := (hF.at 2 rfl).fl; have y2 := (hF.at 2 rfl).fh; have y3 := (hF.at 2 rfl).lo; have y4 := (hF.at 2 rfl).hi; replace hF := hF.put 2 rfl D.1 D.2.1 rfl; have x2l := (hF.at 2 rfl).lo; have x2h := (hF.at 2 rfl).hi; have x3l := (hF.at 3 rfl).lo; have x3h := (hF.at 3 rfl).hi) | (go_at_call 20; refine (HB _).out.mono ?_; rintro e wn ⟨rfl, hb⟩; replace hF := hF.step hb; clear hb; clear x2l x2h x3l x3h; have y1 := (hF.at 1 rfl).fl; have y2 := (hF.at 1 rfl).fh; have y3 := (hF.at 1 rfl).lo; have y4 := (hF.at 1 rfl).hi; replace hF := hF.put 1 rfl Q.1 Q.2.1 rfl; have x1l := (hF.at 1 rfl).lo; have x1h := (hF.at 1 rfl).hi; have x4l := (hF.at 4 rfl).lo; have x4h := (hF.at 4 rfl).hi) | (go_at_call 18; refine (HL _).out.mono ?_; rintro e wn ⟨rfl, hb⟩; replace hF := hF.step hb; clear hb; clear x1l x1h x4l x4h; have y1 := (hF.at 0 rfl).fl; have y2 := (hF.at 0 rfl).fh; have y3 := (hF.at 0 rfl).lo; have y4 := (hF.at 0 rfl).hi; replace hF := hF.put 0 rfl S.1 S.2.1 rfl; have x0l := (hF.at 0 rfl).lo; have x0h := (hF.at 0 rfl).hi; have x6l := (hF.at 6 rfl).lo; have x6h := (hF.at 6 rfl).hi) | (go_at_call 21; refine (HT _).out.mono ?_; rintro e wn ⟨rfl, hb⟩; replace hF := hF.step hb; clear hb; clear x0l x0h x6l x6h; have y1 := (hF.at 0 rfl).fl; have y2 := (hF.at 0 rfl).fh; have y3 := (hF.at 0 rfl).lo; have y4 := (hF.at 0 rfl).hi; replace hF := hF.put 0 rfl M.1 M.2.1 rfl; have x0l := (hF.at 0 rfl).lo; have x0h := (hF.at 0 rfl).hi; have s1 := (hF.at 5 rfl).fl; have s2 := (hF.at 5 rfl).fh; have s3 := (hF.at 5 rfl).lo; have s4 := (hF.at 5 rfl).hi; have y6 := (hF.at 5 rfl).r0; have y7 := (hF.at 5 rfl).r1))
            refine bodyPost_ret (by simp [results, Tryz.results29, go_sem, y6, y7]; try rfl) rfl ?_
            rw [HX.out]
            exact ⟨rfl, (hF.put 5 rfl _ _ rfl).below⟩
          · have HX : Hid (R = (0, 0, M.2.2)) := by rw [HR.out, if_pos hH, if_pos hD, if_pos hQ, if_pos hS, if_neg hM]; rfl
            have HB := fun w => hid (rBy_um H.1 H.2.1 D.1 D.2.1 w (Um.chk_ok.1 (cH hH)).1 (Um.chk_ok.1 (cH hH)).2.1 (Um.chk_ok.1 (cD hD)).1 (Um.chk_ok.1 (cD hD)).2.2)
            rw [eQ] at HB
            have cQ := Um.sby_chk (Um.chk_ok.1 (cD hD)).2.2 (by rw [eQ]; exact hQ)
            rw [eQ] at cQ
            have HL := fun w => hid (rLess_any m m Q.1 Q.2.1 w hm hm (Um.chk_ok.1 cQ).1 (Um.chk_ok.1 cQ).2.1)
            rw [eS] at HL
            clear cQ
            have kH : (H.2.2 == 0) = true := by simpa using hH
            have jH : (H.2.2 != 0) = false := by simpa using hH
            have kD : (D.2.2 == 0) = true := by simpa using hD
            have jD : (D.2.2 != 0) = false := by simpa using hD
            have kQ : (Q.2.2 == 0) = true := by simpa using hQ
            have jQ : (Q.2.2 != 0) = false := by simpa using hQ
            have kS : (S.2.2 == 0) = true := by simpa using hS
            have jS : (S.2.2 != 0) = false := by simpa using hS
            have kM : (M.2.2 == 0) = false := by simpa using hM
            have jM : (M.2.2 != 0) = true := by simpa using hM
            clear HR hH hD hQ hS hM cH cD eQ eS hm
            obtain ⟨a0, cap0, rfl, -⟩ := (id hl)
            go_enter Tryz.func29, Tryz.ntmps29
            go_wp2_with (first | (go_at_call 52; refine (HM _).out.mono ?_; rintro e wn ⟨rfl, rfl⟩) | (go_at_call 51; refine (hid (rAlone_any _ _)).out.mono ?_; rintro e wn ⟨rfl, hb⟩; replace hF := (hF.alloc _).step hb; clear hb; clear x1l x1h; replace hF := hF.push m m rfl; have x0l := (hF.at 0 rfl).lo; have x0h := (hF.at 0 rfl).hi) | (go_at_call 50; refine (HH _ (hF.li hl)).out.mono ?_; rintro e wn ⟨rfl, hb⟩; replace hF := hF.step hb; clear hb; clear x0l x0h; replace hF := (((hF.push H.1 H.2.1 rfl).push 0 0 (b := wn.heap.size + 1) (by simp)).push 0 0 (b := wn.heap.size + 1 + 1) (by simp)).push 0 0 (b := wn.heap.size + 1 + 1 + 1) (by simp); have x6l := (hF.at 6 rfl).lo; have x6h := (hF.at 6 rfl).hi) | (go_at_call 48; refine (HS _ (hF.li hl)).out.mono ?_; rintro e wn ⟨rfl, hb⟩; replace hF := hF.step hb; clear hb; clear x6l x6h; have y1 := (hF.at 2 rfl).fl; have y2 := (hF.at 2 rfl).fh; have y3 := (hF.at 2 rfl).lo; have y4 := (hF.at 2 rfl).hi; replace hF := hF.put 2 rfl D.1 D.2.1 rfl; have x2l := (hF.at 2 rfl).lo; have x2h := (hF.at 2 rfl).hi; have x3l := (hF.at 3 rfl).lo; have x3h := (hF.at 3 rfl).hi) | (go_at_call 20; refine (HB _).out.mono ?_; rintro e wn ⟨rfl, hb⟩; replace hF := hF.step hb; clear hb; clear x2l x2h x3l x3h; have y1 := (hF.at 1 rfl).fl; have y2 := (hF.at 1 rfl).fh; have y3 := (hF.at 1 rfl).lo; have y4 := (hF.at 1 rfl).hi; replace hF := hF.put 1 rfl Q.1 Q.2.1 rfl; have x1l := (hF.at 1 rfl).lo; have x1h := (hF.at 1 rfl).hi; have x4l := (hF.at 4 rfl).lo; have x4h := (hF.at 4 rfl).hi) | (go_at_call 18; refine (HL _).out.mono ?_; rintro e wn ⟨rfl, hb⟩; replace hF := hF.step hb; clear hb; clear x1l x1h x4l x4h; have y1 := (hF.at 0 rfl).fl; have y2 := (hF.at 0 rfl).fh; have y3 := (hF.at 0 rfl).lo; have y4 := (hF.at 0 rfl).hi; replace hF := hF.put 0 rfl S.1 S.2.1 rfl; have x0l := (hF.at 0 rfl).lo; have x0h := (hF.at 0 rfl).hi; have x6l := (hF.at 6 rfl).lo; have x6h := (hF.at 6 rfl).hi) | (go_at_call 21; refine (HT _).out.mono ?_; rintro e wn ⟨rfl, hb⟩; replace hF := hF.step hb; clear hb; clear x0l x0h x6l x6h; have y1 := (hF.at 0 rfl).fl; have y2 := (hF.at 0 rfl).fh; have y3 := (hF.at 0 rfl).lo; have y4 := (hF.at 0 rfl).hi; replace hF := hF.put 0 rfl M.1 M.2.1 rfl; have s1 := (hF.at 5 rfl).fl; have s2 := (hF.at 5 rfl).fh; have s3 := (hF.at 5 rfl).lo; have s4 := (hF.at 5 rfl).hi; have y6 := (hF.at 5 rfl).r0; have y7 := (hF.at 5 rfl).r1))
            refine bodyPost_ret (by simp [results, Tryz.results29, go_sem, y6, y7]; try rfl) rfl ?_
            rw [HX.out]
            exact ⟨rfl, (hF.put 5 rfl _ _ rfl).below⟩
        · have HX : Hid (R = (0, 0, S.2.2)) := by rw [HR.out, if_pos hH, if_pos hD, if_pos hQ, if_neg hS]; rfl
          have HB := fun w => hid (rBy_um H.1 H.2.1 D.1 D.2.1 w (Um.chk_ok.1 (cH hH)).1 (Um.chk_ok.1 (cH hH)).2.1 (Um.chk_ok.1 (cD hD)).1 (Um.chk_ok.1 (cD hD)).2.2)
          rw [eQ] at HB
          have cQ := Um.sby_chk (Um.chk_ok.1 (cD hD)).2.2 (by rw [eQ]; exact hQ)
          rw [eQ] at cQ
          have HL := fun w => hid (rLess_any m m Q.1 Q.2.1 w hm hm (Um.chk_ok.1 cQ).1 (Um.chk_ok.1 cQ).2.1)
          rw [eS] at HL
          clear cQ
          have kH : (H.2.2 == 0) = true := by simpa using hH
          have jH : (H.2.2 != 0) = false := by simpa using hH
          have kD : (D.2.2 == 0) = true := by simpa using hD
          have jD : (D.2.2 != 0) = false := by simpa using hD
          have kQ : (Q.2.2 == 0) = true := by simpa using hQ
          have jQ : (Q.2.2 != 0) = false := by simpa using hQ
          have kS : (S.2.2 == 0) = false := by simpa using hS
          have jS : (S.2.2 != 0) = true := by simpa using hS
          clear HR hH hD hQ hS cH cD eQ eS hm
          obtain ⟨a0, cap0, rfl, -⟩ := (id hl)
          go_enter Tryz.func29, Tryz.ntmps29
          go_wp2_with (first | (go_at_call 52; refine (HM _).out.mono ?_; rintro e wn ⟨rfl, rfl⟩) | (go_at_call 51; refine (hid (rAlone_any _ _)).out.mono ?_; rintro e wn ⟨rfl, hb⟩; replace hF := (hF.alloc _).step hb; clear hb; clear x1l x1h; replace hF := hF.push m m rfl; have x0l := (hF.at 0 rfl).lo; have x0h := (hF.at 0 rfl).hi) | (go_at_call 50; refine (HH _ (hF.li hl)).out.mono ?_; rintro e wn ⟨rfl, hb⟩; replace hF := hF.step hb; clear hb; clear x0l x0h; replace hF := (((hF.push H.1 H.2.1 rfl).push 0 0 (b := wn.heap.size + 1) (by simp)).push 0 0 (b := wn.heap.size + 1 + 1) (by simp)).push 0 0 (b := wn.heap.size + 1 + 1 + 1) (by simp); have x6l := (hF.at 6 rfl).lo; have x6h := (hF.at 6 rfl).hi) | (go_at_call 48; refine (HS _ (hF.li hl)).out.mono ?_; rintro e wn ⟨rfl, hb⟩; replace hF := hF.step hb; clear hb; clear x6l x6h; have y1 := (hF.at 2 rfl).fl; have y2 := (hF.at 2 rfl).fh; have y3 := (hF.at 2 rfl).lo; have y4 := (hF.at 2 rfl).hi; replace hF := hF.put 2 rfl D.1 D.2.1 rfl; have x2l := (hF.at 2 rfl).lo; have x2h := (hF.at 2 rfl).hi; have x3l := (hF.at 3 rfl).lo; have x3h := (hF.at 3 rfl).hi) | (go_at_call 20; refine (HB _).out.mono ?_; rintro e wn ⟨rfl, hb⟩; replace hF := hF.step hb; clear hb; clear x2l x2h x3l x3h; have y1 := (hF.at 1 rfl).fl; have y2 := (hF.at 1 rfl).fh; have y3 := (hF.at 1 rfl).lo; have y4 := (hF.at 1 rfl).hi; replace hF := hF.put 1 rfl Q.1 Q.2.1 rfl; have x1l := (hF.at 1 rfl).lo; have x1h := (hF.at 1 rfl).hi; have x4l := (hF.at 4 rfl).lo; have x4h := (hF.at 4 rfl).hi) | (go_at_call 18; refine (HL _).out.mono ?_; rintro e wn ⟨rfl, hb⟩; replace hF := hF.step hb; clear hb; clear x1l x1h x4l x4h; have y1 := (hF.at 0 rfl).fl; have y2 := (hF.at 0 rfl).fh; have y3 := (hF.at 0 rfl).lo; have y4 := (hF.at 0 rfl).hi; replace hF := hF.put 0 rfl S.1 S.2.1 rfl; have s1 := (hF.at 5 rfl).fl; have s2 := (hF.at 5 rfl).fh; have s3 := (hF.at 5 rfl).lo; have s4 := (hF.at 5 rfl).hi; have y6 := (hF.at 5 rfl).r0; have y7 := (hF.at 5 rfl).r1))
          refine bodyPost_ret (by simp [results, Tryz.results29, go_sem, y6, y7]; try rfl) rfl ?_
          rw [HX.out]
          exact ⟨rfl, (hF.put 5 rfl _ _ rfl).below⟩
      · have HX : Hid (R = (0, 0, Q.2.2)) := by rw [HR.out, if_pos hH, if_pos hD, if_neg hQ]; rfl
        have HB := fun w => hid (rBy_um H.1 H.2.1 D.1 D.2.1 w (Um.chk_ok.1 (cH hH)).1 (Um.chk_ok.1 (cH hH)).2.1 (Um.chk_ok.1 (cD hD)).1 (Um.chk_ok.1 (cD hD)).2.2)
        rw [eQ] at HB
        have kH : (H.2.2 == 0) = true := by simpa using hH
        have jH : (H.2.2 != 0) = false := by simpa using hH
        have kD : (D.2.2 == 0) = true := by simpa using hD
        have jD : (D.2.2 != 0) = false := by simpa using hD
        have kQ : (Q.2.2 == 0) = false := by simpa using hQ
        have jQ : (Q.2.2 != 0) = true := by simpa using hQ
        clear HR hH hD hQ cH cD eQ eS hm
        obtain ⟨a0, cap0, rfl, -⟩ := (id hl)
        go_enter Tryz.func29, Tryz.ntmps29
        go_wp2_with (first | (go_at_call 52; refine (HM _).out.mono ?_; rintro e wn ⟨rfl, rfl⟩) | (go_at_call 51; refine (hid (rAlone_any _ _)).out.mono ?_; rintro e wn ⟨rfl, hb⟩; replace hF := (hF.alloc _).step hb; clear hb; clear x1l x1h; replace hF := hF.push m m rfl; have x0l := (hF.at 0 rfl).lo; have x0h := (hF.at 0 rfl).hi) | (go_at_call 50; refine (HH _ (hF.li hl)).out.mono ?_; rintro e wn ⟨rfl, hb⟩; replace hF := hF.step hb; clear hb; clear x0l x0h; replace hF := (((hF.push H.1 H.2.1 rfl).push 0 0 (b := wn.heap.size + 1) (by simp)).push 0 0 (b := wn.heap.size + 1 + 1) (by simp)).push 0 0 (b := wn.heap.size + 1 + 1 + 1) (by simp); have x6l := (hF.at 6 rfl).lo; have x6h := (hF.at 6 rfl).hi) | (go_at_call 48; refine (HS _ (hF.li hl)).out.mono ?_; rintro e wn ⟨rfl, hb⟩; replace hF := hF.step hb; clear hb; clear x6l x6h; have y1 := (hF.at 2 rfl).fl; have y2 := (hF.at 2 rfl).fh; have y3 := (hF.at 2 rfl).lo; have y4 := (hF.at 2 rfl).hi; replace hF := hF.put 2 rfl D.1 D.2.1 rfl; have x2l := (hF.at 2 rfl).lo; have x2h := (hF.at 2 rfl).hi; have x3l := (hF.at 3 rfl).lo; have x3h := (hF.at 3 rfl).hi) | (go_at_call 20; refine (HB _).out.mono ?_; rintro e wn ⟨rfl, hb⟩; replace hF := hF.step hb; clear hb; clear x2l x2h x3l x3h; have y1 := (hF.at 1 rfl).fl; have y2 := (hF.at 1 rfl).fh; have y3 := (hF.at 1 rfl).lo; have y4 := (hF.at 1 rfl).hi; replace hF := hF.put 1 rfl Q.1 Q.2.1 rfl; have s1 := (hF.at 5 rfl).fl; have s2 := (hF.at 5 rfl).fh; have s3 := (hF.at 5 rfl).lo; have s4 := (hF.at 5 rfl).hi; have y6 := (hF.at 5 rfl).r0; have y7 := (hF.at 5 rfl).r1))
        refine bodyPost_ret (by simp [results, Tryz.results29, go_sem, y6, y7]; try rfl) rfl ?_
        rw [HX.out]
        exact ⟨rfl, (hF.put 5 rfl _ _ rfl).below⟩
    · have HX : Hid (R = (0, 0, D.2.2)) := by rw [HR.out, if_pos hH, if_neg hD]; rfl
      have kH : (H.2.2 == 0) = true := by simpa using hH
      have jH : (H.2.2 != 0) = false := by simpa using hH
      have kD : (D.2.2 == 0) = false := by simpa using hD
      have jD : (D.2.2 != 0) = true := by simpa using hD
      clear HR hH hD cH cD eQ eS hm
      obtain ⟨a0, cap0, rfl, -⟩ := (id hl)
      go_enter Tryz.func29, Tryz.ntmps29
      go_wp2_with (first | (go_at_call 52; refine (HM _).out.mono ?_; rintro e wn ⟨rfl, rfl⟩) | (go_at_call 51; refine (hid (rAlone_any _ _)).out.mono ?_; rintro e wn ⟨rfl, hb⟩; replace hF := (hF.alloc _).step hb; clear hb; clear x1l x1h; replace hF := hF.push m m rfl; have x0l := (hF.at 0 rfl).lo; have x0h := (hF.at 0 rfl).hi) | (go_at_call 50; refine (HH _ (hF.li hl)).out.mono ?_; rintro e wn ⟨rfl, hb⟩; replace hF := hF.step hb; clear hb; clear x0l x0h; replace hF := (((hF.push H.1 H.2.1 rfl).push 0 0 (b := wn.heap.size + 1) (by simp)).push 0 0 (b := wn.heap.size + 1 + 1) (by simp)).push 0 0 (b := wn.heap.size + 1 + 1 + 1) (by simp); have x6l := (hF.at 6 rfl).lo; have x6h := (hF.at 6 rfl).hi) | (go_at_call 48; refine (HS _ (hF.li hl)).out.mono ?_; rintro e wn ⟨rfl, hb⟩; replace hF := hF.step hb; clear hb; clear x6l x6h; have y1 := (hF.at 2 rfl).fl; have y2 := (hF.at 2 rfl).fh; have y3 := (hF.at 2 rfl).lo; have y4 := (hF.at 2 rfl).hi; replace hF := hF.put 2 rfl D.1 D.2.1 rfl; have s1 := (hF.at 5 rfl).fl; have s2 := (hF.at 5 rfl).fh; have s3 := (hF.at 5 rfl).lo; have s4 := (hF.at 5 rfl).hi; have y6 := (hF.at 5 rfl).r0; have y7 := (hF.at 5 rfl).r1))
      refine bodyPost_ret (by simp [results, Tryz.results29, go_sem, y6, y7]; try rfl) rfl ?_
      rw [HX.out]
      exact ⟨rfl, (hF.put 5 rfl _ _ rfl).below⟩
  · have HX : Hid (R = (0, 0, H.2.2)) := by rw [HR.out, if_neg hH]; rfl
    have kH : (H.2.2 == 0) = false := by simpa using hH
    have jH : (H.2.2 != 0) = true := by simpa using hH
    clear HR hH cH cD eQ eS hm
    obtain ⟨a0, cap0, rfl, -⟩ := (id hl)
    go_enter Tryz.func29, Tryz.ntmps29
    go_wp2_with (first | (go_at_call 52; refine (HM _).out.mono ?_; rintro e wn ⟨rfl, rfl⟩) | (go_at_call 51; refine (hid (rAlone_any _ _)).out.mono ?_; rintro e wn ⟨rfl, hb⟩; replace hF := (hF.alloc _).step hb; clear hb; clear x1l x1h; replace hF := hF.push m m rfl; have x0l := (hF.at 0 rfl).lo; have x0h := (hF.at 0 rfl).hi) | (go_at_call 50; refine (HH _ (hF.li hl)).out.mono ?_; rintro e wn ⟨rfl, hb⟩; replace hF := hF.step hb; clear hb; clear x0l x0h; replace hF := (((hF.push H.1 H.2.1 rfl).push 0 0 (b := wn.heap.size + 1) (by simp)).push 0 0 (b := wn.heap.size + 1 + 1) (by simp)).push 0 0 (b := wn.heap.size + 1 + 1 + 1) (by simp); have y1 := (hF.at 5 rfl).fl; have y2 := (hF.at 5 rfl).fh; have y3 := (hF.at 5 rfl).lo; have y4 := (hF.at 5 rfl).hi; have y6 := (hF.at 5 rfl).r0; have y7 := (hF.at 5 rfl).r1))
    refine bodyPost_ret (by simp [results, Tryz.results29, go_sem, y6, y7]; try rfl) rfl ?_
    rw [HX.out]
    exact ⟨rfl, (hF.put 5 rfl _ _ rfl).below⟩
end Go.Proofs.YtkfalmdckmlneaaGreatDoor
