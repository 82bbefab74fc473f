/-
  What the document's answer (package spanref1) to ranges from the middle is: Slope, Center, Best, of what is right.
-/
import Derived.Test.YthoiiffdigkodaaDoorCenter
import Derived.Test.YthoiiffdigkodaaDoorRefPow
import Derived.Test.YthoiiffdigkodaaDoorRefSpan
import Derived.Test.YthoiiffdigkodaaDoorRefHorn
import Derived.Test.YthoiiffdigkodaaDoorRefPows
import Derived.Test.YthoiiffdigkodaaDoorRefDer
import Derived.Deep.DeepCutAuto
namespace Go.Proofs.YthoiiffdigkodaaDoor
set_option linter.unusedSimpArgs false
open Go.RowKit

set_option maxHeartbeats 1000000 in
theorem rSlope_any (p : List Int) (v : Value) (lo hi : Int) (w : World) (hl : Li w.heap.size w v p) (ho : Um.over p lo hi = 0) :
    Calls Tryd.prog 34 #[v, .agg #[.int .i64 lo, .int .i64 hi]] w fun e w' => e = .returned (.tuple #[.agg #[.int .i64 (Um.slopeR lo hi p).1, .int .i64 (Um.slopeR lo hi p).2.1], .int .i64 (Um.slopeR lo hi p).2.2]) ∧ Below w.heap.size w w' := by
  have hp := (Um.over_ok.1 ho).1
  have HD := fun w hl => hid (rDerive_any p v w hl hp)
  have hF := Fr.two w lo hi
  have x1l := (hF.at 1 rfl).lo
  have x1h := (hF.at 1 rfl).hi
  by_cases hd : (Um.derR p).2 = 0
  · have HR : Hid (Um.slopeR lo hi p = Um.hornR lo hi (Um.ders p)) := by unfold Um.slopeR; rw [if_pos hd]; rfl
    have HH := fun v w hl => hid (rHorner_any (Um.ders p) v lo hi w hl (Um.over_ok.2 ⟨Um.der_pchk hp hd, (Um.over_ok.1 ho).2⟩))
    rw [(Um.der_ok hd).1] at HD
    clear ho hd hp
    generalize Um.slopeR lo hi p = Q at *
    generalize Um.hornR lo hi (Um.ders p) = R at *
    generalize Um.ders p = D at *
    obtain ⟨a0, cap0, rfl, -⟩ := (id hl)
    go_enter Tryd.func34, Tryd.ntmps34
    go_wp2_with (first | (go_at_call 60; refine (HD _ (hF.li hl)).out.mono ?_; rintro e wn ⟨v8, rfl, l8, hb⟩; replace hF := hF.step hb; clear hb; clear x1l x1h; have x1l := (hF.at 1 rfl).lo; have x1h := (hF.at 1 rfl).hi) | (go_at_call 33; refine (HH _ _ l8).out.mono ?_; rintro e wn ⟨rfl, hb⟩; replace hF := hF.step hb; clear hb; clear x1l x1h; have y1 := (hF.at 0 rfl).fl; have y2 := (hF.at 0 rfl).fh; have y3 := (hF.at 0 rfl).lo; have y4 := (hF.at 0 rfl).hi; have y6 := (hF.at 0 rfl).r0; have y7 := (hF.at 0 rfl).r1))
    refine bodyPost_ret (by simp [results, Tryd.results34, go_sem, y6, y7]; try rfl) rfl ?_
    rw [HR.out]
    exact ⟨rfl, (hF.put 0 rfl _ _ rfl).below⟩
  · have HR : Hid (Um.slopeR lo hi p = (0, 0, 4)) := by unfold Um.slopeR; rw [if_neg hd]; rfl
    rw [Um.der_no hd] at HD
    clear ho hd hp
    generalize Um.slopeR lo hi p = Q at *
    obtain ⟨a0, cap0, rfl, -⟩ := (id hl)
    go_enter Tryd.func34, Tryd.ntmps34
    go_wp2_with (first | (go_at_call 60; refine (HD _ (hF.li hl)).out.mono ?_; rintro e wn ⟨v8, rfl, l8, hb⟩; replace hF := hF.step hb; clear hb; clear x1l x1h; have y1 := (hF.at 0 rfl).fl; have y2 := (hF.at 0 rfl).fh; have y3 := (hF.at 0 rfl).lo; have y4 := (hF.at 0 rfl).hi; have y6 := (hF.at 0 rfl).r0; have y7 := (hF.at 0 rfl).r1))
    refine bodyPost_ret (by simp [results, Tryd.results34, go_sem, y6, y7]; try rfl) rfl ?_
    rw [HR.out]
    exact ⟨rfl, (hF.put 0 rfl _ _ rfl).below⟩

theorem cent_ref {p : List Int} {lo hi : Int} {H S L T A : Int × Int × Int} (eH : Um.hornR (Um.midR lo hi) (Um.midR lo hi) p = H) (eS : Um.slopeR lo hi p = S) (eL : Um.lessR lo hi (Um.midR lo hi) (Um.midR lo hi) = L) (eT : Um.stimesR S.1 S.2.1 L.1 L.2.1 = T) (eA : Um.addR H.1 H.2.1 T.1 T.2.1 = A) :
    Um.centR lo hi p = if H.2.2 = 0 then (if S.2.2 = 0 then (if L.2.2 = 0 then (if T.2.2 = 0 then (if A.2.2 = 0 then (A.1, A.2.1, 0) else (0, 0, A.2.2)) else (0, 0, T.2.2)) else (0, 0, L.2.2)) else (0, 0, S.2.2)) else (0, 0, H.2.2) := by
  have fH := Um.horn_fault (Um.midR lo hi) (Um.midR lo hi) p
  have fS := Um.slope_fault lo hi p
  have fL := Um.less_fault lo hi (Um.midR lo hi) (Um.midR lo hi)
  have fT := Um.stimes_fault S.1 S.2.1 L.1 L.2.1
  have fA := Um.add_fault H.1 H.2.1 T.1 T.2.1
  rw [eH] at fH
  rw [eS] at fS
  rw [eL] at fL
  rw [eT] at fT
  rw [eA] at fA
  unfold Um.centR Um.chgR
  rw [eH, eS, eL, eT]
  by_cases h1 : H.2.2 = 0
  · rw [if_pos h1, if_pos h1]
    by_cases h2 : S.2.2 = 0
    · rw [if_pos h2, if_pos h2]
      by_cases h3 : L.2.2 = 0
      · rw [if_pos h3, if_pos h3]
        by_cases h4 : T.2.2 = 0
        · rw [if_pos h4, if_pos h4, eA]
          by_cases h5 : A.2.2 = 0
          · rw [if_pos h5]; obtain ⟨a, b, c⟩ := A; simp only at h5; subst h5; rfl
          · rw [if_neg h5, fA.resolve_left h5]
        · rw [if_neg h4, if_neg h4, fT.resolve_left h4]
      · rw [if_neg h3, if_neg h3, fL.resolve_left h3]; rfl
    · rw [if_neg h2, if_neg h2, fS.resolve_left h2]; rfl
  · rw [if_neg h1, if_neg h1, fH.resolve_left h1]

theorem best_ref {p : List Int} {lo hi : Int} (ho : Um.over p lo hi = 0) {H P C M N : Int × Int × Int} (eH : Um.hornR lo hi p = H) (eP : Um.powsN lo hi p p.length = P) (eC : Um.centR lo hi p = C) (eM : Um.meetR H.1 H.2.1 P.1 P.2.1 = M) (eN : Um.meetR M.1 M.2.1 C.1 C.2.1 = N) :
    (Um.bestR lo hi p = if H.2.2 = 0 then (if P.2.2 = 0 then (if C.2.2 = 0 then (N.1, N.2.1, 0) else (0, 0, C.2.2)) else (0, 0, P.2.2)) else (0, 0, H.2.2)) ∧ (H.2.2 = 0 → P.2.2 = 0 → M.2.2 = 0 ∧ (C.2.2 = 0 → N.2.2 = 0)) := by
  have fH := Um.horn_fault lo hi p
  have fP := Um.pows_fault lo hi p p.length
  have fC := Um.cent_fault lo hi p
  have bm := Um.best_meets (p := p) ho
  unfold Um.bestR
  rw [eH] at fH bm ⊢
  rw [eP] at fP bm ⊢
  rw [eC] at fC bm ⊢
  by_cases h1 : H.2.2 = 0
  · rw [if_pos h1, if_pos h1]
    by_cases h2 : P.2.2 = 0
    · rw [if_pos h2, if_pos h2]
      obtain ⟨m1, m2⟩ := bm h1 h2
      rw [Um.meet_yes m1] at eM
      subst eM
      by_cases h3 : C.2.2 = 0
      · rw [if_pos h3, if_pos h3]
        rw [Um.meet_yes (m2 h3)] at eN
        subst eN
        exact ⟨rfl, fun _ _ => ⟨rfl, fun _ => rfl⟩⟩
      · rw [if_neg h3, if_neg h3]
        exact ⟨by rw [fC.resolve_left h3], fun _ _ => ⟨rfl, fun h => absurd h h3⟩⟩
    · rw [if_neg h2, if_neg h2]
      exact ⟨by rw [fP.resolve_left h2], fun _ h => absurd h h2⟩
  · rw [if_neg h1, if_neg h1]
    exact ⟨by rw [fH.resolve_left h1], fun h => absurd h h1⟩

end Go.Proofs.YthoiiffdigkodaaDoor
