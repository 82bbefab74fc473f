/-
  What the document's answer (package spanref1) to ranges from the middle is: Slope, Center, Best, of what is right.
-/
import Derived.Test.YthoiiffdigkodaaGreatDoorCenter
import Derived.Test.YthoiiffdigkodaaGreatDoorRefPow
import Derived.Test.YthoiiffdigkodaaGreatDoorRefSpan
import Derived.Test.YthoiiffdigkodaaGreatDoorRefHorn
import Derived.Test.YthoiiffdigkodaaGreatDoorRefPows
import Derived.Test.YthoiiffdigkodaaGreatDoorRefDer
import Derived.Deep.DeepCutAuto
namespace Go.Proofs.YthoiiffdigkodaaGreatDoor
set_option linter.unusedSimpArgs false
open Go.RowKit

set_option maxHeartbeats 1000000 in
theorem rSlope_any (p : List Int) (v : Value) (lo hi : Int) (w : World) (hl : Li w.heap.size w v p) (ho : Um.over p lo hi = 0) :
    Calls Tryz.prog 25 #[v, .agg #[.int .i64 lo, .int .i64 hi]] w fun e w' => e = .returned (.tuple #[.agg #[.int .i64 (Um.slopeR lo hi p).1, .int .i64 (Um.slopeR lo hi p).2.1], .int .i64 (Um.slopeR lo hi p).2.2]) ∧ Below w.heap.size w w' := by
  have hp := (Um.over_ok.1 ho).1
  have HD := fun w hl => hid (rDerive_any p v w hl hp)
  have hF := Fr.two w lo hi
  have x1l := (hF.at 1 rfl).lo
  have x1h := (hF.at 1 rfl).hi
  by_cases hd : (Um.derR p).2 = 0
  · have HR : Hid (Um.slopeR lo hi p = Um.hornR lo hi (Um.ders p)) := by unfold Um.slopeR; rw [if_pos hd]; rfl
    have HH := fun v w hl => hid (rHorner_any (Um.ders p) v lo hi w hl (Um.over_ok.2 ⟨Um.der_pchk hp hd, (Um.over_ok.1 ho).2⟩))
    rw [(Um.der_ok hd).1] at HD
    clear ho hd hp
    generalize Um.slopeR lo hi p = Q at *
    generalize Um.hornR lo hi (Um.ders p) = R at *
    generalize Um.ders p = D at *
    obtain ⟨a0, cap0, rfl, -⟩ := (id hl)
    go_enter Tryz.func25, Tryz.ntmps25
    go_wp2_with (first | (go_at_call 46; refine (HD _ (hF.li hl)).out.mono ?_; rintro e wn ⟨v8, rfl, l8, hb⟩; replace hF := hF.step hb; clear hb; clear x1l x1h; have x1l := (hF.at 1 rfl).lo; have x1h := (hF.at 1 rfl).hi) | (go_at_call 27; refine (HH _ _ l8).out.mono ?_; rintro e wn ⟨rfl, hb⟩; replace hF := hF.step hb; clear hb; clear x1l x1h; have y1 := (hF.at 0 rfl).fl; have y2 := (hF.at 0 rfl).fh; have y3 := (hF.at 0 rfl).lo; have y4 := (hF.at 0 rfl).hi; have y6 := (hF.at 0 rfl).r0; have y7 := (hF.at 0 rfl).r1))
    refine bodyPost_ret (by simp [results, Tryz.results25, go_sem, y6, y7]; try rfl) rfl ?_
    rw [HR.out]
    exact ⟨rfl, (hF.put 0 rfl _ _ rfl).below⟩
  · have HR : Hid (Um.slopeR lo hi p = (0, 0, 4)) := by unfold Um.slopeR; rw [if_neg hd]; rfl
    rw [Um.der_no hd] at HD
    clear ho hd hp
    generalize Um.slopeR lo hi p = Q at *
    obtain ⟨a0, cap0, rfl, -⟩ := (id hl)
    go_enter Tryz.func25, Tryz.ntmps25
    go_wp2_with (first | (go_at_call 46; refine (HD _ (hF.li hl)).out.mono ?_; rintro e wn ⟨v8, rfl, l8, hb⟩; replace hF := hF.step hb; clear hb; clear x1l x1h; have y1 := (hF.at 0 rfl).fl; have y2 := (hF.at 0 rfl).fh; have y3 := (hF.at 0 rfl).lo; have y4 := (hF.at 0 rfl).hi; have y6 := (hF.at 0 rfl).r0; have y7 := (hF.at 0 rfl).r1))
    refine bodyPost_ret (by simp [results, Tryz.results25, go_sem, y6, y7]; try rfl) rfl ?_
    rw [HR.out]
    exact ⟨rfl, (hF.put 0 rfl _ _ rfl).below⟩

theorem cent_ref {p : List Int} {lo hi : Int} {H S L T A : Int × Int × Int} (eH : Um.hornR (Um.midR lo hi) (Um.midR lo hi) p = H) (eS : Um.slopeR lo hi p = S) (eL : Um.lessR lo hi (Um.midR lo hi) (Um.midR lo hi) = L) (eT : Um.stimesR S.1 S.2.1 L.1 L.2.1 = T) (eA : Um.addR H.1 H.2.1 T.1 T.2.1 = A) :
    Um.centR lo hi p = if H.2.2 = 0 then (if S.2.2 = 0 then (if L.2.2 = 0 then (if T.2.2 = 0 then (if A.2.2 = 0 then (A.1, A.2.1, 0) else (0, 0, A.2.2)) else (0, 0, T.2.2)) else (0, 0, L.2.2)) else (0, 0, S.2.2)) else (0, 0, H.2.2) := by
  have fH := Um.horn_fault (Um.midR lo hi) (Um.midR lo hi) p
  have fS := Um.slope_fault lo hi p
  have fL := Um.less_fault lo hi (Um.midR lo hi) (Um.midR lo hi)
  have fT := Um.stimes_fault S.1 S.2.1 L.1 L.2.1
  have fA := Um.add_fault H.1 H.2.1 T.1 T.2.1
  rw [eH] at fH
  rw [eS] at fS
  rw [eL] at fL
  rw [eT] at fT
  rw [eA] at fA
  unfold Um.centR Um.chgR
  rw [eH, eS, eL, eT]
  by_cases h1 : H.2.2 = 0
  · rw [if_pos h1, if_pos h1]
    by_cases h2 : S.2.2 = 0
    · rw [if_pos h2, if_pos h2]
      by_cases h3 : L.2.2 = 0
      · rw [if_pos h3, if_pos h3]
        by_cases h4 : T.2.2 = 0
        · rw [if_pos h4, if_pos h4, eA]
          by_cases h5 : A.2.2 = 0
          · rw [if_pos h5]; obtain ⟨a, b, c⟩ := A; simp only at h5; subst h5; rfl
          · rw [if_neg h5, fA.resolve_left h5]
        · rw [if_neg h4, if_neg h4, fT.resolve_left h4]
      · rw [if_neg h3, if_neg h3, fL.resolve_left h3]; rfl
    · rw [if_neg h2, if_neg h2, fS.resolve_left h2]; rfl
  · rw [if_neg h1, if_neg h1, fH.resolve_left h1]

set_option maxRecDepth 100000 in
set_option maxHeartbeats 8000000 in
theorem rCenter_any (p : List Int) (v : Value) (lo hi : Int) (w : World) (hl : Li w.heap.size w v p) (ho : Um.over p lo hi = 0) :
    Calls Tryz.prog 45 #[v, .agg #[.int .i64 lo, .int .i64 hi]] w fun e w' => e = .returned (.tuple #[.agg #[.int .i64 (Um.centR lo hi p).1, .int .i64 (Um.centR lo hi p).2.1], .int .i64 (Um.centR lo hi p).2.2]) ∧ Below w.heap.size w w' := by
  obtain ⟨hp, hc⟩ := Um.over_ok.1 ho
  have hp' := Um.pchk_ok.1 hp
  have hm := Um.mid_may hc
  obtain ⟨m1, m2, hle⟩ := Um.chk_ok.1 hc
  obtain ⟨a1, a2⟩ := (Um.may_iff _).1 m1
  obtain ⟨a3, a4⟩ := (Um.may_iff _).1 m2
  have HM := fun w => hid (rMiddle_any lo hi w a1 a2 a3 a4)
  have HS := fun w hl => hid (rSlope_any p v lo hi w hl ho)
  have HH := fun w hl => hid (rHorner_any p v (Um.midR lo hi) (Um.midR lo hi) w hl (Um.over_ok.2 ⟨hp, Um.chk_alone hm⟩))
  have HL := fun w => hid (rLess_any lo hi (Um.midR lo hi) (Um.midR lo hi) w m1 m2 hm hm)
  have cH := Um.horn_chk (Int.le_refl (Um.midR lo hi)) p hp'.1 hp'.2.2
  have cS := Um.slope_chk (p := p) hle
  have cL := Um.less_chk (m := Um.midR lo hi) hle
  have hF := Fr.two w lo hi
  have x1l := (hF.at 1 rfl).lo
  have x1h := (hF.at 1 rfl).hi
  obtain ⟨T, eT⟩ : ∃ T, Um.stimesR (Um.slopeR lo hi p).1 (Um.slopeR lo hi p).2.1 (Um.lessR lo hi (Um.midR lo hi) (Um.midR lo hi)).1 (Um.lessR lo hi (Um.midR lo hi) (Um.midR lo hi)).2.1 = T := ⟨_, rfl⟩
  obtain ⟨A, eA⟩ : ∃ A, Um.addR (Um.hornR (Um.midR lo hi) (Um.midR lo hi) p).1 (Um.hornR (Um.midR lo hi) (Um.midR lo hi) p).2.1 T.1 T.2.1 = A := ⟨_, rfl⟩
  have HR := hid (cent_ref (p := p) (lo := lo) (hi := hi) rfl rfl rfl eT eA)
  clear ho hp hp' hc hm m1 m2 hle a1 a2 a3 a4
  generalize Um.centR lo hi p = R at *
  generalize Um.hornR (Um.midR lo hi) (Um.midR lo hi) p = H at *
  generalize Um.slopeR lo hi p = S at *
  generalize Um.lessR lo hi (Um.midR lo hi) (Um.midR lo hi) = L at *
  generalize Um.midR lo hi = m at *
  by_cases hH : H.2.2 = 0
  · by_cases hS : S.2.2 = 0
    · by_cases hL : L.2.2 = 0
      · by_cases hT : T.2.2 = 0
        · by_cases hA : A.2.2 = 0
          · have HX : Hid (R = (A.1, A.2.1, 0)) := by rw [HR.out, if_pos hH, if_pos hS, if_pos hL, if_pos hT, if_pos hA]; rfl
            have HT := fun w => hid (rTimes_um S.1 S.2.1 L.1 L.2.1 w (Um.chk_ok.1 (cS hS)).1 (Um.chk_ok.1 (cS hS)).2.1 (Um.chk_ok.1 (cL hL)).1 (Um.chk_ok.1 (cL hL)).2.1)
            rw [eT] at HT
            have cT := Um.stimes_chk (Um.chk_ok.1 (cS hS)).2.2 (Um.chk_ok.1 (cL hL)).2.2 (by rw [eT]; exact hT)
            rw [eT] at cT
            have HA := fun w => hid (rAdd_any H.1 H.2.1 T.1 T.2.1 w (Um.chk_ok.1 (cH hH)).1 (Um.chk_ok.1 (cH hH)).2.1 (Um.chk_ok.1 cT).1 (Um.chk_ok.1 cT).2.1)
            rw [eA] at HA
            clear cT
            have kH : (H.2.2 == 0) = true := by simpa using hH
            have jH : (H.2.2 != 0) = false := by simpa using hH
            have kS : (S.2.2 == 0) = true := by simpa using hS
            have jS : (S.2.2 != 0) = false := by simpa using hS
            have kL : (L.2.2 == 0) = true := by simpa using hL
            have jL : (L.2.2 != 0) = false := by simpa using hL
            have kT : (T.2.2 == 0) = true := by simpa using hT
            have jT : (T.2.2 != 0) = false := by simpa using hT
            have kA : (A.2.2 == 0) = true := by simpa using hA
            have jA : (A.2.2 != 0) = false := by simpa using hA
            clear HR hH hS hL hT hA cH cS cL eT eA
            obtain ⟨a0, cap0, rfl, -⟩ := (id hl)
            go_enter Tryz.func45, Tryz.ntmps45
            go_wp2_with (first | (go_at_call 33; refine (HM _).out.mono ?_; rintro e wn ⟨rfl, rfl⟩) | (go_at_call 28; refine (hid (rAlone_any _ _)).out.mono ?_; rintro e wn ⟨rfl, hb⟩; replace hF := (hF.alloc _).step hb; clear hb; clear x1l x1h; replace hF := hF.push m m rfl; have x0l := (hF.at 0 rfl).lo; have x0h := (hF.at 0 rfl).hi) | (go_at_call 27; refine (HH _ (hF.li hl)).out.mono ?_; rintro e wn ⟨rfl, hb⟩; replace hF := hF.step hb; clear hb; clear x0l x0h; replace hF := ((hF.push H.1 H.2.1 rfl).push 0 0 (b := wn.heap.size + 1) (by simp)).push 0 0 (b := wn.heap.size + 1 + 1) (by simp); have x5l := (hF.at 5 rfl).lo; have x5h := (hF.at 5 rfl).hi) | (go_at_call 25; refine (HS _ (hF.li hl)).out.mono ?_; rintro e wn ⟨rfl, hb⟩; replace hF := hF.step hb; clear hb; clear x5l x5h; have y1 := (hF.at 1 rfl).fl; have y2 := (hF.at 1 rfl).fh; have y3 := (hF.at 1 rfl).lo; have y4 := (hF.at 1 rfl).hi; replace hF := hF.put 1 rfl S.1 S.2.1 rfl; have x3l := (hF.at 3 rfl).lo; have x3h := (hF.at 3 rfl).hi; have x5l := (hF.at 5 rfl).lo; have x5h := (hF.at 5 rfl).hi) | (go_at_call 65; refine (HL _).out.mono ?_; rintro e wn ⟨rfl, hb⟩; replace hF := hF.step hb; clear hb; clear x5l x5h x3l x3h; have y1 := (hF.at 0 rfl).fl; have y2 := (hF.at 0 rfl).fh; have y3 := (hF.at 0 rfl).lo; have y4 := (hF.at 0 rfl).hi; replace hF := hF.put 0 rfl L.1 L.2.1 rfl; have x0l := (hF.at 0 rfl).lo; have x0h := (hF.at 0 rfl).hi; have x1l := (hF.at 1 rfl).lo; have x1h := (hF.at 1 rfl).hi) | (go_at_call 47; refine (HT _).out.mono ?_; rintro e wn ⟨rfl, hb⟩; replace hF := hF.step hb; clear hb; clear x0l x0h x1l x1h; have y1 := (hF.at 1 rfl).fl; have y2 := (hF.at 1 rfl).fh; have y3 := (hF.at 1 rfl).lo; have y4 := (hF.at 1 rfl).hi; replace hF := hF.put 1 rfl T.1 T.2.1 rfl; have x1l := (hF.at 1 rfl).lo; have x1h := (hF.at 1 rfl).hi; have x2l := (hF.at 2 rfl).lo; have x2h := (hF.at 2 rfl).hi) | (go_at_call 48; refine (HA _).out.mono ?_; rintro e wn ⟨rfl, hb⟩; replace hF := hF.step hb; clear hb; clear x1l x1h x2l x2h; have y1 := (hF.at 2 rfl).fl; have y2 := (hF.at 2 rfl).fh; have y3 := (hF.at 2 rfl).lo; have y4 := (hF.at 2 rfl).hi; replace hF := hF.put 2 rfl A.1 A.2.1 rfl; have x2l := (hF.at 2 rfl).lo; have x2h := (hF.at 2 rfl).hi; have s1 := (hF.at 4 rfl).fl; have s2 := (hF.at 4 rfl).fh; have s3 := (hF.at 4 rfl).lo; have s4 := (hF.at 4 rfl).hi; have y6 := (hF.at 4 rfl).r0; have y7 := (hF.at 4 rfl).r1))
            refine bodyPost_ret (by simp [results, Tryz.results45, go_sem, y6, y7]; try rfl) rfl ?_
            rw [HX.out]
            exact ⟨rfl, (hF.put 4 rfl _ _ rfl).below⟩
          · have HX : Hid (R = (0, 0, A.2.2)) := by rw [HR.out, if_pos hH, if_pos hS, if_pos hL, if_pos hT, if_neg hA]; rfl
            have HT := fun w => hid (rTimes_um S.1 S.2.1 L.1 L.2.1 w (Um.chk_ok.1 (cS hS)).1 (Um.chk_ok.1 (cS hS)).2.1 (Um.chk_ok.1 (cL hL)).1 (Um.chk_ok.1 (cL hL)).2.1)
            rw [eT] at HT
            have cT := Um.stimes_chk (Um.chk_ok.1 (cS hS)).2.2 (Um.chk_ok.1 (cL hL)).2.2 (by rw [eT]; exact hT)
            rw [eT] at cT
            have HA := fun w => hid (rAdd_any H.1 H.2.1 T.1 T.2.1 w (Um.chk_ok.1 (cH hH)).1 (Um.chk_ok.1 (cH hH)).2.1 (Um.chk_ok.1 cT).1 (Um.chk_ok.1 cT).2.1)
            rw [eA] at HA
            clear cT
            have kH : (H.2.2 == 0) = true := by simpa using hH
            have jH : (H.2.2 != 0) = false := by simpa using hH
            have kS : (S.2.2 == 0) = true := by simpa using hS
            have jS : (S.2.2 != 0) = false := by simpa using hS
            have kL : (L.2.2 == 0) = true := by simpa using hL
            have jL : (L.2.2 != 0) = false := by simpa using hL
            have kT : (T.2.2 == 0) = true := by simpa using hT
            have jT : (T.2.2 != 0) = false := by simpa using hT
            have kA : (A.2.2 == 0) = false := by simpa using hA
            have jA : (A.2.2 != 0) = true := by simpa using hA
            clear HR hH hS hL hT hA cH cS cL eT eA
            obtain ⟨a0, cap0, rfl, -⟩ := (id hl)
            go_enter Tryz.func45, Tryz.ntmps45
            go_wp2_with (first | (go_at_call 33; refine (HM _).out.mono ?_; rintro e wn ⟨rfl, rfl⟩) | (go_at_call 28; refine (hid (rAlone_any _ _)).out.mono ?_; rintro e wn ⟨rfl, hb⟩; replace hF := (hF.alloc _).step hb; clear hb; clear x1l x1h; replace hF := hF.push m m rfl; have x0l := (hF.at 0 rfl).lo; have x0h := (hF.at 0 rfl).hi) | (go_at_call 27; refine (HH _ (hF.li hl)).out.mono ?_; rintro e wn ⟨rfl, hb⟩; replace hF := hF.step hb; clear hb; clear x0l x0h; replace hF := ((hF.push H.1 H.2.1 rfl).push 0 0 (b := wn.heap.size + 1) (by simp)).push 0 0 (b := wn.heap.size + 1 + 1) (by simp); have x5l := (hF.at 5 rfl).lo; have x5h := (hF.at 5 rfl).hi) | (go_at_call 25; refine (HS _ (hF.li hl)).out.mono ?_; rintro e wn ⟨rfl, hb⟩; replace hF := hF.step hb; clear hb; clear x5l x5h; have y1 := (hF.at 1 rfl).fl; have y2 := (hF.at 1 rfl).fh; have y3 := (hF.at 1 rfl).lo; have y4 := (hF.at 1 rfl).hi; replace hF := hF.put 1 rfl S.1 S.2.1 rfl; have x3l := (hF.at 3 rfl).lo; have x3h := (hF.at 3 rfl).hi; have x5l := (hF.at 5 rfl).lo; have x5h := (hF.at 5 rfl).hi) | (go_at_call 65; refine (HL _).out.mono ?_; rintro e wn ⟨rfl, hb⟩; replace hF := hF.step hb; clear hb; clear x5l x5h x3l x3h; have y1 := (hF.at 0 rfl).fl; have y2 := (hF.at 0 rfl).fh; have y3 := (hF.at 0 rfl).lo; have y4 := (hF.at 0 rfl).hi; replace hF := hF.put 0 rfl L.1 L.2.1 rfl; have x0l := (hF.at 0 rfl).lo; have x0h := (hF.at 0 rfl).hi; have x1l := (hF.at 1 rfl).lo; have x1h := (hF.at 1 rfl).hi) | (go_at_call 47; refine (HT _).out.mono ?_; rintro e wn ⟨rfl, hb⟩; replace hF := hF.step hb; clear hb; clear x0l x0h x1l x1h; have y1 := (hF.at 1 rfl).fl; have y2 := (hF.at 1 rfl).fh; have y3 := (hF.at 1 rfl).lo; have y4 := (hF.at 1 rfl).hi; replace hF := hF.put 1 rfl T.1 T.2.1 rfl; have x1l := (hF.at 1 rfl).lo; have x1h := (hF.at 1 rfl).hi; have x2l := (hF.at 2 rfl).lo; have x2h := (hF.at 2 rfl).hi) | (go_at_call 48; refine (HA _).out.mono ?_; rintro e wn ⟨rfl, hb⟩; replace hF := hF.step hb; clear hb; clear x1l x1h x2l x2h; have y1 := (hF.at 2 rfl).fl; have y2 := (hF.at 2 rfl).fh; have y3 := (hF.at 2 rfl).lo; have y4 := (hF.at 2 rfl).hi; replace hF := hF.put 2 rfl A.1 A.2.1 rfl; have s1 := (hF.at 4 rfl).fl; have s2 := (hF.at 4 rfl).fh; have s3 := (hF.at 4 rfl).lo; have s4 := (hF.at 4 rfl).hi; have y6 := (hF.at 4 rfl).r0; have y7 := (hF.at 4 rfl).r1))
            refine bodyPost_ret (by simp [results, Tryz.results45, go_sem, y6, y7]; try rfl) rfl ?_
            rw [HX.out]
            exact ⟨rfl, (hF.put 4 rfl _ _ rfl).below⟩
        · have HX : Hid (R = (0, 0, T.2.2)) := by rw [HR.out, if_pos hH, if_pos hS, if_pos hL, if_neg hT]; rfl
          have HT := fun w => hid (rTimes_um S.1 S.2.1 L.1 L.2.1 w (Um.chk_ok.1 (cS hS)).1 (Um.chk_ok.1 (cS hS)).2.1 (Um.chk_ok.1 (cL hL)).1 (Um.chk_ok.1 (cL hL)).2.1)
          rw [eT] at HT
          have kH : (H.2.2 == 0) = true := by simpa using hH
          have jH : (H.2.2 != 0) = false := by simpa using hH
          have kS : (S.2.2 == 0) = true := by simpa using hS
          have jS : (S.2.2 != 0) = false := by simpa using hS
          have kL : (L.2.2 == 0) = true := by simpa using hL
          have jL : (L.2.2 != 0) = false := by simpa using hL
          have kT : (T.2.2 == 0) = false := by simpa using hT
          have jT : (T.2.2 != 0) = true := by simpa using hT
          clear HR hH hS hL hT cH cS cL eT eA
          obtain ⟨a0, cap0, rfl, -⟩ := (id hl)
          go_enter Tryz.func45, Tryz.ntmps45
          go_wp2_with (first | (go_at_call 33; refine (HM _).out.mono ?_; rintro e wn ⟨rfl, rfl⟩) | (go_at_call 28; refine (hid (rAlone_any _ _)).out.mono ?_; rintro e wn ⟨rfl, hb⟩; replace hF := (hF.alloc _).step hb; clear hb; clear x1l x1h; replace hF := hF.push m m rfl; have x0l := (hF.at 0 rfl).lo; have x0h := (hF.at 0 rfl).hi) | (go_at_call 27; refine (HH _ (hF.li hl)).out.mono ?_; rintro e wn ⟨rfl, hb⟩; replace hF := hF.step hb; clear hb; clear x0l x0h; replace hF := ((hF.push H.1 H.2.1 rfl).push 0 0 (b := wn.heap.size + 1) (by simp)).push 0 0 (b := wn.heap.size + 1 + 1) (by simp); have x5l := (hF.at 5 rfl).lo; have x5h := (hF.at 5 rfl).hi) | (go_at_call 25; refine (HS _ (hF.li hl)).out.mono ?_; rintro e wn ⟨rfl, hb⟩; replace hF := hF.step hb; clear hb; clear x5l x5h; have y1 := (hF.at 1 rfl).fl; have y2 := (hF.at 1 rfl).fh; have y3 := (hF.at 1 rfl).lo; have y4 := (hF.at 1 rfl).hi; replace hF := hF.put 1 rfl S.1 S.2.1 rfl; have x3l := (hF.at 3 rfl).lo; have x3h := (hF.at 3 rfl).hi; have x5l := (hF.at 5 rfl).lo; have x5h := (hF.at 5 rfl).hi) | (go_at_call 65; refine (HL _).out.mono ?_; rintro e wn ⟨rfl, hb⟩; replace hF := hF.step hb; clear hb; clear x5l x5h x3l x3h; have y1 := (hF.at 0 rfl).fl; have y2 := (hF.at 0 rfl).fh; have y3 := (hF.at 0 rfl).lo; have y4 := (hF.at 0 rfl).hi; replace hF := hF.put 0 rfl L.1 L.2.1 rfl; have x0l := (hF.at 0 rfl).lo; have x0h := (hF.at 0 rfl).hi; have x1l := (hF.at 1 rfl).lo; have x1h := (hF.at 1 rfl).hi) | (go_at_call 47; refine (HT _).out.mono ?_; rintro e wn ⟨rfl, hb⟩; replace hF := hF.step hb; clear hb; clear x0l x0h x1l x1h; have y1 := (hF.at 1 rfl).fl; have y2 := (hF.at 1 rfl).fh; have y3 := (hF.at 1 rfl).lo; have y4 := (hF.at 1 rfl).hi; replace hF := hF.put 1 rfl T.1 T.2.1 rfl; have s1 := (hF.at 4 rfl).fl; have s2 := (hF.at 4 rfl).fh; have s3 := (hF.at 4 rfl).lo; have s4 := (hF.at 4 rfl).hi; have y6 := (hF.at 4 rfl).r0; have y7 := (hF.at 4 rfl).r1))
          refine bodyPost_ret (by simp [results, Tryz.results45, go_sem, y6, y7]; try rfl) rfl ?_
          rw [HX.out]
          exact ⟨rfl, (hF.put 4 rfl _ _ rfl).below⟩
      · have HX : Hid (R = (0, 0, L.2.2)) := by rw [HR.out, if_pos hH, if_pos hS, if_neg hL]; rfl
        have kH : (H.2.2 == 0) = true := by simpa using hH
        have jH : (H.2.2 != 0) = false := by simpa using hH
        have kS : (S.2.2 == 0) = true := by simpa using hS
        have jS : (S.2.2 != 0) = false := by simpa using hS
        have kL : (L.2.2 == 0) = false := by simpa using hL
        have jL : (L.2.2 != 0) = true := by simpa using hL
        clear HR hH hS hL cH cS cL eT eA
        obtain ⟨a0, cap0, rfl, -⟩ := (id hl)
        go_enter Tryz.func45, Tryz.ntmps45
        go_wp2_with (first | (go_at_call 33; refine (HM _).out.mono ?_; rintro e wn ⟨rfl, rfl⟩) | (go_at_call 28; refine (hid (rAlone_any _ _)).out.mono ?_; rintro e wn ⟨rfl, hb⟩; replace hF := (hF.alloc _).step hb; clear hb; clear x1l x1h; replace hF := hF.push m m rfl; have x0l := (hF.at 0 rfl).lo; have x0h := (hF.at 0 rfl).hi) | (go_at_call 27; refine (HH _ (hF.li hl)).out.mono ?_; rintro e wn ⟨rfl, hb⟩; replace hF := hF.step hb; clear hb; clear x0l x0h; replace hF := ((hF.push H.1 H.2.1 rfl).push 0 0 (b := wn.heap.size + 1) (by simp)).push 0 0 (b := wn.heap.size + 1 + 1) (by simp); have x5l := (hF.at 5 rfl).lo; have x5h := (hF.at 5 rfl).hi) | (go_at_call 25; refine (HS _ (hF.li hl)).out.mono ?_; rintro e wn ⟨rfl, hb⟩; replace hF := hF.step hb; clear hb; clear x5l x5h; have y1 := (hF.at 1 rfl).fl; have y2 := (hF.at 1 rfl).fh; have y3 := (hF.at 1 rfl).lo; have y4 := (hF.at 1 rfl).hi; replace hF := hF.put 1 rfl S.1 S.2.1 rfl; have x3l := (hF.at 3 rfl).lo; have x3h := (hF.at 3 rfl).hi; have x5l := (hF.at 5 rfl).lo; have x5h := (hF.at 5 rfl).hi) | (go_at_call 65; refine (HL _).out.mono ?_; rintro e wn ⟨rfl, hb⟩; replace hF := hF.step hb; clear hb; clear x5l x5h x3l x3h; have y1 := (hF.at 0 rfl).fl; have y2 := (hF.at 0 rfl).fh; have y3 := (hF.at 0 rfl).lo; have y4 := (hF.at 0 rfl).hi; replace hF := hF.put 0 rfl L.1 L.2.1 rfl; have s1 := (hF.at 4 rfl).fl; have s2 := (hF.at 4 rfl).fh; have s3 := (hF.at 4 rfl).lo; have s4 := (hF.at 4 rfl).hi; have y6 := (hF.at 4 rfl).r0; have y7 := (hF.at 4 rfl).r1))
        refine bodyPost_ret (by simp [results, Tryz.results45, go_sem, y6, y7]; try rfl) rfl ?_
        rw [HX.out]
        exact ⟨rfl, (hF.put 4 rfl _ _ rfl).below⟩
    · have HX : Hid (R = (0, 0, S.2.2)) := by rw [HR.out, if_pos hH, if_neg hS]; rfl
      have kH : (H.2.2 == 0) = true := by simpa using hH
      have jH : (H.2.2 != 0) = false := by simpa using hH
      have kS : (S.2.2 == 0) = false := by simpa using hS
      have jS : (S.2.2 != 0) = true := by simpa using hS
      clear HR hH hS cH cS cL eT eA
      obtain ⟨a0, cap0, rfl, -⟩ := (id hl)
      go_enter Tryz.func45, Tryz.ntmps45
      go_wp2_with (first | (go_at_call 33; refine (HM _).out.mono ?_; rintro e wn ⟨rfl, rfl⟩) | (go_at_call 28; refine (hid (rAlone_any _ _)).out.mono ?_; rintro e wn ⟨rfl, hb⟩; replace hF := (hF.alloc _).step hb; clear hb; clear x1l x1h; replace hF := hF.push m m rfl; have x0l := (hF.at 0 rfl).lo; have x0h := (hF.at 0 rfl).hi) | (go_at_call 27; refine (HH _ (hF.li hl)).out.mono ?_; rintro e wn ⟨rfl, hb⟩; replace hF := hF.step hb; clear hb; clear x0l x0h; replace hF := ((hF.push H.1 H.2.1 rfl).push 0 0 (b := wn.heap.size + 1) (by simp)).push 0 0 (b := wn.heap.size + 1 + 1) (by simp); have x5l := (hF.at 5 rfl).lo; have x5h := (hF.at 5 rfl).hi) | (go_at_call 25; refine (HS _ (hF.li hl)).out.mono ?_; rintro e wn ⟨rfl, hb⟩; replace hF := hF.step hb; clear hb; clear x5l x5h; have y1 := (hF.at 1 rfl).fl; have y2 := (hF.at 1 rfl).fh; have y3 := (hF.at 1 rfl).lo; have y4 := (hF.at 1 rfl).hi; replace hF := hF.put 1 rfl S.1 S.2.1 rfl; have s1 := (hF.at 4 rfl).fl; have s2 := (hF.at 4 rfl).fh; have s3 := (hF.at 4 rfl).lo; have s4 := (hF.at 4 rfl).hi; have y6 := (hF.at 4 rfl).r0; have y7 := (hF.at 4 rfl).r1))
      refine bodyPost_ret (by simp [results, Tryz.results45, go_sem, y6, y7]; try rfl) rfl ?_
      rw [HX.out]
      exact ⟨rfl, (hF.put 4 rfl _ _ rfl).below⟩
  · have HX : Hid (R = (0, 0, H.2.2)) := by rw [HR.out, if_neg hH]; rfl
    have kH : (H.2.2 == 0) = false := by simpa using hH
    have jH : (H.2.2 != 0) = true := by simpa using hH
    clear HR hH cH cS cL eT eA
    obtain ⟨a0, cap0, rfl, -⟩ := (id hl)
    go_enter Tryz.func45, Tryz.ntmps45
    go_wp2_with (first | (go_at_call 33; refine (HM _).out.mono ?_; rintro e wn ⟨rfl, rfl⟩) | (go_at_call 28; refine (hid (rAlone_any _ _)).out.mono ?_; rintro e wn ⟨rfl, hb⟩; replace hF := (hF.alloc _).step hb; clear hb; clear x1l x1h; replace hF := hF.push m m rfl; have x0l := (hF.at 0 rfl).lo; have x0h := (hF.at 0 rfl).hi) | (go_at_call 27; refine (HH _ (hF.li hl)).out.mono ?_; rintro e wn ⟨rfl, hb⟩; replace hF := hF.step hb; clear hb; clear x0l x0h; replace hF := ((hF.push H.1 H.2.1 rfl).push 0 0 (b := wn.heap.size + 1) (by simp)).push 0 0 (b := wn.heap.size + 1 + 1) (by simp); have y1 := (hF.at 4 rfl).fl; have y2 := (hF.at 4 rfl).fh; have y3 := (hF.at 4 rfl).lo; have y4 := (hF.at 4 rfl).hi; have y6 := (hF.at 4 rfl).r0; have y7 := (hF.at 4 rfl).r1))
    refine bodyPost_ret (by simp [results, Tryz.results45, go_sem, y6, y7]; try rfl) rfl ?_
    rw [HX.out]
    exact ⟨rfl, (hF.put 4 rfl _ _ rfl).below⟩

theorem best_ref {p : List Int} {lo hi : Int} (ho : Um.over p lo hi = 0) {H P C M N : Int × Int × Int} (eH : Um.hornR lo hi p = H) (eP : Um.powsN lo hi p p.length = P) (eC : Um.centR lo hi p = C) (eM : Um.meetR H.1 H.2.1 P.1 P.2.1 = M) (eN : Um.meetR M.1 M.2.1 C.1 C.2.1 = N) :
    (Um.bestR lo hi p = if H.2.2 = 0 then (if P.2.2 = 0 then (if C.2.2 = 0 then (N.1, N.2.1, 0) else (0, 0, C.2.2)) else (0, 0, P.2.2)) else (0, 0, H.2.2)) ∧ (H.2.2 = 0 → P.2.2 = 0 → M.2.2 = 0 ∧ (C.2.2 = 0 → N.2.2 = 0)) := by
  have fH := Um.horn_fault lo hi p
  have fP := Um.pows_fault lo hi p p.length
  have fC := Um.cent_fault lo hi p
  have bm := Um.best_meets (p := p) ho
  unfold Um.bestR
  rw [eH] at fH bm ⊢
  rw [eP] at fP bm ⊢
  rw [eC] at fC bm ⊢
  by_cases h1 : H.2.2 = 0
  · rw [if_pos h1, if_pos h1]
    by_cases h2 : P.2.2 = 0
    · rw [if_pos h2, if_pos h2]
      obtain ⟨m1, m2⟩ := bm h1 h2
      rw [Um.meet_yes m1] at eM
      subst eM
      by_cases h3 : C.2.2 = 0
      · rw [if_pos h3, if_pos h3]
        rw [Um.meet_yes (m2 h3)] at eN
        subst eN
        exact ⟨rfl, fun _ _ => ⟨rfl, fun _ => rfl⟩⟩
      · rw [if_neg h3, if_neg h3]
        exact ⟨by rw [fC.resolve_left h3], fun _ _ => ⟨rfl, fun h => absurd h h3⟩⟩
    · rw [if_neg h2, if_neg h2]
      exact ⟨by rw [fP.resolve_left h2], fun _ h => absurd h h2⟩
  · rw [if_neg h1, if_neg h1]
    exact ⟨by rw [fH.resolve_left h1], fun h => absurd h h1⟩

set_option maxRecDepth 100000 in
set_option maxHeartbeats 8000000 in
theorem rBest_any (p : List Int) (v : Value) (lo hi : Int) (w : World) (hl : Li w.heap.size w v p) (ho : Um.over p lo hi = 0) :
    Calls Tryz.prog 24 #[v, .agg #[.int .i64 lo, .int .i64 hi]] w fun e w' => e = .returned (.tuple #[.agg #[.int .i64 (Um.bestR lo hi p).1, .int .i64 (Um.bestR lo hi p).2.1], .int .i64 (Um.bestR lo hi p).2.2]) ∧ Below w.heap.size w w' := by
  have HH := fun w hl => hid (rHorner_any p v lo hi w hl ho)
  have HP := fun w hl => hid (rPowers_any p v lo hi w hl ho)
  have HC := fun w hl => hid (rCenter_any p v lo hi w hl ho)
  have hF := Fr.two w lo hi
  have x1l := (hF.at 1 rfl).lo
  have x1h := (hF.at 1 rfl).hi
  obtain ⟨M, eM⟩ : ∃ M, Um.meetR (Um.hornR lo hi p).1 (Um.hornR lo hi p).2.1 (Um.powsN lo hi p p.length).1 (Um.powsN lo hi p p.length).2.1 = M := ⟨_, rfl⟩
  obtain ⟨N, eN⟩ : ∃ N, Um.meetR M.1 M.2.1 (Um.centR lo hi p).1 (Um.centR lo hi p).2.1 = N := ⟨_, rfl⟩
  have HM := fun w => hid (rMeet_any (Um.hornR lo hi p).1 (Um.hornR lo hi p).2.1 (Um.powsN lo hi p p.length).1 (Um.powsN lo hi p p.length).2.1 w)
  have HN := fun w => hid (rMeet_any M.1 M.2.1 (Um.centR lo hi p).1 (Um.centR lo hi p).2.1 w)
  obtain ⟨hR, hMN⟩ := best_ref ho rfl rfl rfl eM eN
  have HR := hid hR
  rw [eM] at HM
  rw [eN] at HN
  clear ho hR eM eN
  generalize Um.bestR lo hi p = R at *
  generalize Um.hornR lo hi p = H at *
  generalize Um.powsN lo hi p p.length = P at *
  generalize Um.centR lo hi p = C at *
  by_cases hH : H.2.2 = 0
  · by_cases hP : P.2.2 = 0
    · obtain ⟨hM, hCN⟩ := hMN hH hP
      clear hMN
      by_cases hC : C.2.2 = 0
      · have hN := hCN hC
        clear hCN
        have HX : Hid (R = (N.1, N.2.1, 0)) := by rw [HR.out, if_pos hH, if_pos hP, if_pos hC]; rfl
        have kH : (H.2.2 == 0) = true := by simpa using hH
        have jH : (H.2.2 != 0) = false := by simpa using hH
        have kP : (P.2.2 == 0) = true := by simpa using hP
        have jP : (P.2.2 != 0) = false := by simpa using hP
        have kM : (M.2.2 == 0) = true := by simpa using hM
        have jM : (M.2.2 != 0) = false := by simpa using hM
        have kC : (C.2.2 == 0) = true := by simpa using hC
        have jC : (C.2.2 != 0) = false := by simpa using hC
        have kN : (N.2.2 == 0) = true := by simpa using hN
        have jN : (N.2.2 != 0) = false := by simpa using hN
        clear hH hP hM hC hN HR
        obtain ⟨a0, cap0, rfl, -⟩ := (id hl)
        go_enter Tryz.func24, Tryz.ntmps24
        go_wp2_with (first | (go_at_call 27; refine (HH _ (hF.li hl)).out.mono ?_; rintro e wn ⟨rfl, hb⟩; replace hF := hF.step hb; clear hb; clear x1l x1h; replace hF := ((hF.push H.1 H.2.1 rfl).push 0 0 (b := wn.heap.size + 1) (by simp)).push 0 0 (b := wn.heap.size + 1 + 1) (by simp); have x4l := (hF.at 4 rfl).lo; have x4h := (hF.at 4 rfl).hi) | (go_at_call 43; refine (HP _ (hF.li hl)).out.mono ?_; rintro e wn ⟨rfl, hb⟩; replace hF := hF.step hb; clear hb; clear x4l x4h; have y1 := (hF.at 1 rfl).fl; have y2 := (hF.at 1 rfl).fh; have y3 := (hF.at 1 rfl).lo; have y4 := (hF.at 1 rfl).hi; replace hF := hF.put 1 rfl P.1 P.2.1 rfl; have x1l := (hF.at 1 rfl).lo; have x1h := (hF.at 1 rfl).hi; have x2l := (hF.at 2 rfl).lo; have x2h := (hF.at 2 rfl).hi) | (go_at_call 44; refine (HM _).out.mono ?_; rintro e wn ⟨rfl, hb⟩; replace hF := hF.step hb; clear hb; clear x1l x1h x2l x2h; clear HM; have y1 := (hF.at 2 rfl).fl; have y2 := (hF.at 2 rfl).fh; have y3 := (hF.at 2 rfl).lo; have y4 := (hF.at 2 rfl).hi; replace hF := hF.put 2 rfl M.1 M.2.1 rfl; have x4l := (hF.at 4 rfl).lo; have x4h := (hF.at 4 rfl).hi) | (go_at_call 45; refine (HC _ (hF.li hl)).out.mono ?_; rintro e wn ⟨rfl, hb⟩; replace hF := hF.step hb; clear hb; clear x4l x4h; have y1 := (hF.at 0 rfl).fl; have y2 := (hF.at 0 rfl).fh; have y3 := (hF.at 0 rfl).lo; have y4 := (hF.at 0 rfl).hi; replace hF := hF.put 0 rfl C.1 C.2.1 rfl; have x0l := (hF.at 0 rfl).lo; have x0h := (hF.at 0 rfl).hi; have x2l := (hF.at 2 rfl).lo; have x2h := (hF.at 2 rfl).hi) | (go_at_call 44; refine (HN _).out.mono ?_; rintro e wn ⟨rfl, hb⟩; replace hF := hF.step hb; clear hb; clear x0l x0h x2l x2h; have y1 := (hF.at 2 rfl).fl; have y2 := (hF.at 2 rfl).fh; have y3 := (hF.at 2 rfl).lo; have y4 := (hF.at 2 rfl).hi; replace hF := hF.put 2 rfl N.1 N.2.1 rfl; have x2l := (hF.at 2 rfl).lo; have x2h := (hF.at 2 rfl).hi; have s1 := (hF.at 3 rfl).fl; have s2 := (hF.at 3 rfl).fh; have s3 := (hF.at 3 rfl).lo; have s4 := (hF.at 3 rfl).hi; have y6 := (hF.at 3 rfl).r0; have y7 := (hF.at 3 rfl).r1))
        refine bodyPost_ret (by simp [results, Tryz.results24, go_sem, y6, y7]; try rfl) rfl ?_
        rw [HX.out]
        exact ⟨rfl, (hF.put 3 rfl _ _ rfl).below⟩
      · clear hCN HN
        have HX : Hid (R = (0, 0, C.2.2)) := by rw [HR.out, if_pos hH, if_pos hP, if_neg hC]; rfl
        have kH : (H.2.2 == 0) = true := by simpa using hH
        have jH : (H.2.2 != 0) = false := by simpa using hH
        have kP : (P.2.2 == 0) = true := by simpa using hP
        have jP : (P.2.2 != 0) = false := by simpa using hP
        have kM : (M.2.2 == 0) = true := by simpa using hM
        have jM : (M.2.2 != 0) = false := by simpa using hM
        have kC : (C.2.2 == 0) = false := by simpa using hC
        have jC : (C.2.2 != 0) = true := by simpa using hC
        clear hH hP hM hC HR
        obtain ⟨a0, cap0, rfl, -⟩ := (id hl)
        go_enter Tryz.func24, Tryz.ntmps24
        go_wp2_with (first | (go_at_call 27; refine (HH _ (hF.li hl)).out.mono ?_; rintro e wn ⟨rfl, hb⟩; replace hF := hF.step hb; clear hb; clear x1l x1h; replace hF := ((hF.push H.1 H.2.1 rfl).push 0 0 (b := wn.heap.size + 1) (by simp)).push 0 0 (b := wn.heap.size + 1 + 1) (by simp); have x4l := (hF.at 4 rfl).lo; have x4h := (hF.at 4 rfl).hi) | (go_at_call 43; refine (HP _ (hF.li hl)).out.mono ?_; rintro e wn ⟨rfl, hb⟩; replace hF := hF.step hb; clear hb; clear x4l x4h; have y1 := (hF.at 1 rfl).fl; have y2 := (hF.at 1 rfl).fh; have y3 := (hF.at 1 rfl).lo; have y4 := (hF.at 1 rfl).hi; replace hF := hF.put 1 rfl P.1 P.2.1 rfl; have x1l := (hF.at 1 rfl).lo; have x1h := (hF.at 1 rfl).hi; have x2l := (hF.at 2 rfl).lo; have x2h := (hF.at 2 rfl).hi) | (go_at_call 44; refine (HM _).out.mono ?_; rintro e wn ⟨rfl, hb⟩; replace hF := hF.step hb; clear hb; clear x1l x1h x2l x2h; clear HM; have y1 := (hF.at 2 rfl).fl; have y2 := (hF.at 2 rfl).fh; have y3 := (hF.at 2 rfl).lo; have y4 := (hF.at 2 rfl).hi; replace hF := hF.put 2 rfl M.1 M.2.1 rfl; have x4l := (hF.at 4 rfl).lo; have x4h := (hF.at 4 rfl).hi) | (go_at_call 45; refine (HC _ (hF.li hl)).out.mono ?_; rintro e wn ⟨rfl, hb⟩; replace hF := hF.step hb; clear hb; clear x4l x4h; have y1 := (hF.at 0 rfl).fl; have y2 := (hF.at 0 rfl).fh; have y3 := (hF.at 0 rfl).lo; have y4 := (hF.at 0 rfl).hi; replace hF := hF.put 0 rfl C.1 C.2.1 rfl; have s1 := (hF.at 3 rfl).fl; have s2 := (hF.at 3 rfl).fh; have s3 := (hF.at 3 rfl).lo; have s4 := (hF.at 3 rfl).hi; have y6 := (hF.at 3 rfl).r0; have y7 := (hF.at 3 rfl).r1))
        refine bodyPost_ret (by simp [results, Tryz.results24, go_sem, y6, y7]; try rfl) rfl ?_
        rw [HX.out]
        exact ⟨rfl, (hF.put 3 rfl _ _ rfl).below⟩
    · clear hMN
      have HX : Hid (R = (0, 0, P.2.2)) := by rw [HR.out, if_pos hH, if_neg hP]; rfl
      have kH : (H.2.2 == 0) = true := by simpa using hH
      have jH : (H.2.2 != 0) = false := by simpa using hH
      have kP : (P.2.2 == 0) = false := by simpa using hP
      have jP : (P.2.2 != 0) = true := by simpa using hP
      clear hH hP HR
      obtain ⟨a0, cap0, rfl, -⟩ := (id hl)
      go_enter Tryz.func24, Tryz.ntmps24
      go_wp2_with (first | (go_at_call 27; refine (HH _ (hF.li hl)).out.mono ?_; rintro e wn ⟨rfl, hb⟩; replace hF := hF.step hb; clear hb; clear x1l x1h; replace hF := ((hF.push H.1 H.2.1 rfl).push 0 0 (b := wn.heap.size + 1) (by simp)).push 0 0 (b := wn.heap.size + 1 + 1) (by simp); have x4l := (hF.at 4 rfl).lo; have x4h := (hF.at 4 rfl).hi) | (go_at_call 43; refine (HP _ (hF.li hl)).out.mono ?_; rintro e wn ⟨rfl, hb⟩; replace hF := hF.step hb; clear hb; clear x4l x4h; have y1 := (hF.at 1 rfl).fl; have y2 := (hF.at 1 rfl).fh; have y3 := (hF.at 1 rfl).lo; have y4 := (hF.at 1 rfl).hi; replace hF := hF.put 1 rfl P.1 P.2.1 rfl; have s1 := (hF.at 3 rfl).fl; have s2 := (hF.at 3 rfl).fh; have s3 := (hF.at 3 rfl).lo; have s4 := (hF.at 3 rfl).hi; have y6 := (hF.at 3 rfl).r0; have y7 := (hF.at 3 rfl).r1))
      refine bodyPost_ret (by simp [results, Tryz.results24, go_sem, y6, y7]; try rfl) rfl ?_
      rw [HX.out]
      exact ⟨rfl, (hF.put 3 rfl _ _ rfl).below⟩
  · clear hMN
    have HX : Hid (R = (0, 0, H.2.2)) := by rw [HR.out, if_neg hH]; rfl
    have kH : (H.2.2 == 0) = false := by simpa using hH
    have jH : (H.2.2 != 0) = true := by simpa using hH
    clear hH HR
    obtain ⟨a0, cap0, rfl, -⟩ := (id hl)
    go_enter Tryz.func24, Tryz.ntmps24
    go_wp2_with (first | (go_at_call 27; refine (HH _ (hF.li hl)).out.mono ?_; rintro e wn ⟨rfl, hb⟩; replace hF := hF.step hb; clear hb; clear x1l x1h; replace hF := ((hF.push H.1 H.2.1 rfl).push 0 0 (b := wn.heap.size + 1) (by simp)).push 0 0 (b := wn.heap.size + 1 + 1) (by simp); have y1 := (hF.at 3 rfl).fl; have y2 := (hF.at 3 rfl).fh; have y3 := (hF.at 3 rfl).lo; have y4 := (hF.at 3 rfl).hi; have y6 := (hF.at 3 rfl).r0; have y7 := (hF.at 3 rfl).r1))
    refine bodyPost_ret (by simp [results, Tryz.results24, go_sem, y6, y7]; try rfl) rfl ?_
    rw [HX.out]
    exact ⟨rfl, (hF.put 3 rfl _ _ rfl).below⟩
end Go.Proofs.YthoiiffdigkodaaGreatDoor
