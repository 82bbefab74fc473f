/-
  What package center answers: Slope, changeFrom, Range, Best, at every argument.
-/
import Derived.Test.YthgehlonjoafmaaGreatDoorPolyH
import Derived.Test.YthgehlonjoafmaaGreatDoorPolyP
import Derived.Test.YthgehlonjoafmaaGreatDoorPolyD
import Derived.Test.YthgehlonjoafmaaGreatDoorSpanHull
import Derived.Test.YthgehlonjoafmaaGreatDoorMaths
import Derived.Test.YthgehlonjoafmaaGreatDoorMems
namespace Go.Proofs.YthgehlonjoafmaaGreatDoor
set_option linter.unusedSimpArgs false
open Go.RowKit


set_option maxHeartbeats 1000000 in
theorem slope_any (p : List Int) (v : Value) (lo hi : Int) (w : World) (hl : Li w.heap.size w v p) :
    Calls Tryz.prog 62 #[v, .agg #[.int .i64 lo, .int .i64 hi]] w fun e w' => e = .returned (.tuple #[.agg #[.int .i64 (Um.slopeAll p lo hi).1, .int .i64 (Um.slopeAll p lo hi).2.1], errV (Um.slopeAll p lo hi).2.2]) ∧ Below w.heap.size w w' := by
  have q1 := errG
  have q2 := errGn
  have q3 := errE
  have q4 := errN
  have HO := fun w hl => hid (checkOver_any p v lo hi w hl)
  have HD := fun w hl => hid (derive_any p v w hl)
  have hF := Fr.two w lo hi
  have x1l := (hF.at 1 rfl).lo
  have x1h := (hF.at 1 rfl).hi
  by_cases ho : Um.over p lo hi = 0
  · have e4 : derAll p = Um.derR p := by unfold derAll; rw [if_pos (Um.over_ok.1 ho).1]
    rw [ho] at HO
    rw [e4] at HD
    by_cases hd : (Um.derR p).2 = 0
    · have HR : Hid (Um.slopeAll p lo hi = Um.hornAll (Um.derR p).1 lo hi) := by
        have := Um.slope_code ho hd
        unfold Um.slopeAll; rw [if_pos ho, this]; rfl
      have HH := fun v w hl => hid (horner_any (Um.derR p).1 v lo hi w hl)
      rw [hd] at HD
      clear ho hd e4
      generalize Um.derR p = D at *
      generalize Um.hornAll D.1 lo hi = R at *
      obtain ⟨a0, cap0, rfl, -⟩ := (id hl)
      go_enter Tryz.func62, Tryz.ntmps62
      go_wp2_with (first | (go_at_call 38; refine (HO _ (hF.li hl)).out.mono ?_; rintro e wn ⟨rfl, hb⟩; replace hF := hF.step hb; clear hb; clear x1l x1h; have x1l := (hF.at 1 rfl).lo; have x1h := (hF.at 1 rfl).hi) | (go_at_call 79; refine (HD _ (hF.li hl)).out.mono ?_; rintro e wn ⟨v8, rfl, l8, hb⟩; replace hF := hF.step hb; clear hb; clear x1l x1h; have x1l := (hF.at 1 rfl).lo; have x1h := (hF.at 1 rfl).hi) | (go_at_call 61; refine (HH _ _ l8).out.mono ?_; rintro e wn ⟨rfl, hb⟩; replace hF := hF.step hb; clear hb; clear x1l x1h; have y1 := (hF.at 0 rfl).fl; have y2 := (hF.at 0 rfl).fh; have y3 := (hF.at 0 rfl).lo; have y4 := (hF.at 0 rfl).hi; have y6 := (hF.at 0 rfl).r0; have y7 := (hF.at 0 rfl).r1))
      refine bodyPost_ret (by simp [results, Tryz.results62, go_sem, y6, y7]; try rfl) rfl ?_
      rw [HR.out]
      exact ⟨rfl, (hF.put 0 rfl _ _ rfl).below⟩
    · have HR : Hid (Um.slopeAll p lo hi = (0, 0, 4)) := by
        unfold Um.slopeAll Um.slopeR; rw [if_pos ho, if_neg hd]; rfl
      rw [Um.der_no hd] at HD
      clear ho hd e4
      generalize Um.slopeAll p lo hi = R at *
      obtain ⟨a0, cap0, rfl, -⟩ := (id hl)
      go_enter Tryz.func62, Tryz.ntmps62
      go_wp2_with (first | (go_at_call 38; refine (HO _ (hF.li hl)).out.mono ?_; rintro e wn ⟨rfl, hb⟩; replace hF := hF.step hb; clear hb; clear x1l x1h; have x1l := (hF.at 1 rfl).lo; have x1h := (hF.at 1 rfl).hi) | (go_at_call 79; refine (HD _ (hF.li hl)).out.mono ?_; rintro e wn ⟨v8, rfl, l8, hb⟩; replace hF := hF.step hb; clear hb; clear x1l x1h; have y1 := (hF.at 0 rfl).fl; have y2 := (hF.at 0 rfl).fh; have y3 := (hF.at 0 rfl).lo; have y4 := (hF.at 0 rfl).hi; have y6 := (hF.at 0 rfl).r0; have y7 := (hF.at 0 rfl).r1))
      refine bodyPost_ret (by simp [results, Tryz.results62, go_sem, y6, y7]; try rfl) rfl ?_
      rw [HR.out]
      exact ⟨rfl, (hF.put 0 rfl _ _ rfl).below⟩
  · have HR : Hid (Um.slopeAll p lo hi = (0, 0, Um.over p lo hi)) := by
      unfold Um.slopeAll; rw [if_neg ho]; rfl
    have k : (Um.over p lo hi != 0) = true := by simpa using ho
    clear ho
    generalize Um.slopeAll p lo hi = R at *
    generalize Um.over p lo hi = G at *
    obtain ⟨a0, cap0, rfl, -⟩ := (id hl)
    go_enter Tryz.func62, Tryz.ntmps62
    go_wp2_with (first | (go_at_call 38; refine (HO _ (hF.li hl)).out.mono ?_; rintro e wn ⟨rfl, hb⟩; replace hF := hF.step hb; clear hb; clear x1l x1h; have y1 := (hF.at 0 rfl).fl; have y2 := (hF.at 0 rfl).fh; have y3 := (hF.at 0 rfl).lo; have y4 := (hF.at 0 rfl).hi; have y6 := (hF.at 0 rfl).r0; have y7 := (hF.at 0 rfl).r1))
    refine bodyPost_ret (by simp [results, Tryz.results62, go_sem, y6, y7]; try rfl) rfl ?_
    rw [HR.out]
    exact ⟨rfl, (hF.put 0 rfl _ _ rfl).below⟩

theorem cent_code {p : List Int} {lo hi : Int} (ho : Um.over p lo hi = 0) : Um.centAll p lo hi =
    if (Um.hornR (Um.midR lo hi) (Um.midR lo hi) p).2.2 = 0 then (if (Um.chgR lo hi p (Um.midR lo hi)).2.2 = 0 then Um.made (Um.addR (Um.hornR (Um.midR lo hi) (Um.midR lo hi) p).1 (Um.hornR (Um.midR lo hi) (Um.midR lo hi) p).2.1 (Um.chgR lo hi p (Um.midR lo hi)).1 (Um.chgR lo hi p (Um.midR lo hi)).2.1) (Um.hornR (Um.midR lo hi) (Um.midR lo hi) p).1 (Um.hornR (Um.midR lo hi) (Um.midR lo hi) p).2.1 (Um.chgR lo hi p (Um.midR lo hi)).1 (Um.chgR lo hi p (Um.midR lo hi)).2.1 else (0, 0, (Um.chgR lo hi p (Um.midR lo hi)).2.2)) else (0, 0, (Um.hornR (Um.midR lo hi) (Um.midR lo hi) p).2.2) := by
  obtain ⟨hp, hc⟩ := Um.over_ok.1 ho
  have hp' := Um.pchk_ok.1 hp
  unfold Um.centAll Um.centR
  rw [if_pos ho]
  by_cases h1 : (Um.hornR (Um.midR lo hi) (Um.midR lo hi) p).2.2 = 0
  · rw [if_pos h1, if_pos h1]
    by_cases h2 : (Um.chgR lo hi p (Um.midR lo hi)).2.2 = 0
    · rw [if_pos h2, if_pos h2, Um.made_good (Um.horn_chk (Int.le_refl _) p hp'.1 hp'.2.2 h1) (Um.chg_chk (Um.chk_ok.1 hc).2.2 h2)]
    · rw [if_neg h2, if_neg h2, (Um.chg_fault lo hi p _).resolve_left h2]
  · rw [if_neg h1, if_neg h1, (Um.horn_fault _ _ p).resolve_left h1]

theorem best_code {p : List Int} {lo hi : Int} (h1 : (Um.hornAll p lo hi).2.2 = 0) (h2 : (Um.powsAll p lo hi).2.2 = 0) (h3 : (Um.centAll p lo hi).2.2 = 0) :
    ∃ M : Int × Int × Int, M = Um.made (Um.meetR (Um.hornAll p lo hi).1 (Um.hornAll p lo hi).2.1 (Um.powsAll p lo hi).1 (Um.powsAll p lo hi).2.1) (Um.hornAll p lo hi).1 (Um.hornAll p lo hi).2.1 (Um.powsAll p lo hi).1 (Um.powsAll p lo hi).2.1 ∧ M.2.2 = 0 ∧
      Um.made (Um.meetR M.1 M.2.1 (Um.centAll p lo hi).1 (Um.centAll p lo hi).2.1) M.1 M.2.1 (Um.centAll p lo hi).1 (Um.centAll p lo hi).2.1 = Um.bestAll p lo hi := by
  have ho : Um.over p lo hi = 0 := by
    by_cases ho : Um.over p lo hi = 0
    · exact ho
    · unfold Um.hornAll at h1; rw [if_neg ho] at h1; exact absurd h1 ho
  obtain ⟨hp, hc⟩ := Um.over_ok.1 ho
  have hp' := Um.pchk_ok.1 hp
  have e1 : Um.hornAll p lo hi = Um.hornR lo hi p := by unfold Um.hornAll; rw [if_pos ho]
  have e2 : Um.powsAll p lo hi = Um.powsN lo hi p p.length := by unfold Um.powsAll; rw [if_pos ho]
  have e3 : Um.centAll p lo hi = Um.centR lo hi p := by unfold Um.centAll; rw [if_pos ho]
  have e4 : Um.bestAll p lo hi = Um.bestR lo hi p := by unfold Um.bestAll; rw [if_pos ho]
  rw [e1] at h1 ⊢
  rw [e2] at h2 ⊢
  rw [e3] at h3 ⊢
  rw [e4]
  have c1 := Um.horn_chk (Um.chk_ok.1 hc).2.2 p hp'.1 hp'.2.2 h1
  have c2 := Um.pows_chk hc p p.length hp'.2.1 h2
  have c3 := Um.cent_chk ho h3
  obtain ⟨m1, m2⟩ := Um.best_meets ho h1 h2
  have m3 := m2 h3
  refine ⟨_, rfl, ?_, ?_⟩
  · rw [Um.made_good c1 c2, Um.meet_yes m1]
  · rw [Um.made_good c1 c2, Um.meet_yes m1]
    have c4 : Um.chk (max (Um.hornR lo hi p).1 (Um.powsN lo hi p p.length).1) (min (Um.hornR lo hi p).2.1 (Um.powsN lo hi p p.length).2.1) = 0 := by
      obtain ⟨a1, a2, _⟩ := Um.chk_ok.1 c1
      obtain ⟨a3, a4, _⟩ := Um.chk_ok.1 c2
      refine Um.chk_ok.2 ⟨?_, ?_, m1⟩
      · simp only [Um.may_iff] at *; omega
      · simp only [Um.may_iff] at *; omega
    rw [Um.made_good c4 c3, Um.meet_yes m3]
    unfold Um.bestR
    rw [if_pos h1, if_pos h2, if_pos h3]
theorem best_first {p : List Int} {lo hi : Int} (h1 : ¬ (Um.hornAll p lo hi).2.2 = 0) : Um.bestAll p lo hi = (0, 0, (Um.hornAll p lo hi).2.2) := by
  unfold Um.bestAll Um.hornAll at *
  by_cases ho : Um.over p lo hi = 0
  · rw [if_pos ho] at h1 ⊢
    rw [if_pos ho, (Um.horn_fault lo hi p).resolve_left h1]
    unfold Um.bestR
    rw [if_neg h1]
  · rw [if_neg ho, if_neg ho]
theorem best_second {p : List Int} {lo hi : Int} (h1 : (Um.hornAll p lo hi).2.2 = 0) (h2 : ¬ (Um.powsAll p lo hi).2.2 = 0) : Um.bestAll p lo hi = (0, 0, (Um.powsAll p lo hi).2.2) := by
  unfold Um.bestAll Um.hornAll Um.powsAll at *
  by_cases ho : Um.over p lo hi = 0
  · rw [if_pos ho] at h1 h2 ⊢
    rw [if_pos ho, (Um.pows_fault lo hi p p.length).resolve_left h2]
    unfold Um.bestR
    rw [if_pos h1, if_neg h2]
  · rw [if_neg ho, if_neg ho]
theorem best_third {p : List Int} {lo hi : Int} (h1 : (Um.hornAll p lo hi).2.2 = 0) (h2 : (Um.powsAll p lo hi).2.2 = 0) (h3 : ¬ (Um.centAll p lo hi).2.2 = 0) : Um.bestAll p lo hi = (0, 0, (Um.centAll p lo hi).2.2) := by
  unfold Um.bestAll Um.hornAll Um.powsAll Um.centAll at *
  by_cases ho : Um.over p lo hi = 0
  · rw [if_pos ho] at h1 h2 h3 ⊢
    rw [if_pos ho, (Um.cent_fault lo hi p).resolve_left h3]
    unfold Um.bestR
    rw [if_pos h1, if_pos h2, if_neg h3]
  · rw [if_neg ho, if_neg ho]

end Go.Proofs.YthgehlonjoafmaaGreatDoor
