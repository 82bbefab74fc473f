/-
  Plain arithmetic of what goes together, no program: the document's answer step by step, a step only while nothing is wrong.
-/
import Derived.Test.YtomkekapgcpihaaDoorOcode
namespace Um
set_option linter.unusedSimpArgs false

/-- One step: what was there, or what is made in its place, and what is wrong. -/
def stp (e : Int) (X : Int × Int) (M : Int × Int × Int) : Int × Int × Int := if e = 0 then M else (X.1, X.2, e)
theorem stp_yes {e : Int} {X : Int × Int} {M : Int × Int × Int} (h : e = 0) : stp e X M = M := by unfold stp; rw [if_pos h]
theorem stp_not {e : Int} {X : Int × Int} {M : Int × Int × Int} (h : ¬ e = 0) : stp e X M = (X.1, X.2, e) := by unfold stp; rw [if_neg h]
theorem stp_ok {e : Int} {X : Int × Int} {M : Int × Int × Int} (h : (stp e X M).2.2 = 0) : e = 0 ∧ M.2.2 = 0 ∧ stp e X M = M := by
  by_cases c : e = 0
  · rw [stp_yes c] at h ⊢; exact ⟨c, h, rfl⟩
  · rw [stp_not c] at h; exact absurd h c
theorem stp_bad {e : Int} {X : Int × Int} {M : Int × Int × Int} (h : ¬ e = 0) : (stp e X M).2.2 = e := by rw [stp_not h]
/-- What is told at the end. -/
def fin3 (e : Int) (A B C : Int × Int × Int) : Three := if e = 0 then ((A.1, A.2.1), (B.1, B.2.1), (C.1, C.2.1), 0) else no3 e
theorem two_nar {xl xh yl yh zl zh : Int} (h : two xl xh yl yh = 0) : narF xl xh yl yh zl zh = chk zl zh := by
  obtain ⟨h1, h2⟩ := two_ok.1 h
  unfold narF; rw [if_pos h1, if_pos h2]
theorem two_not {xl xh yl yh zl zh : Int} (h : ¬ two xl xh yl yh = 0) : narF xl xh yl yh zl zh = two xl xh yl yh := by
  unfold narF two at *
  by_cases h1 : chk xl xh = 0
  · rw [if_pos h1] at h ⊢
    rw [if_neg h, if_pos h1]
  · rw [if_neg h1, if_neg h1]
section
variable {xl xh yl yh zl zh e : Int} {t0 : Int × Int}
theorem sum_steps {T1 T2 T3 T4 T5 T6 : Int × Int × Int} (he : e = narF xl xh yl yh zl zh) (e1 : T1 = stp e t0 (addR xl xh yl yh)) (e2 : T2 = stp T1.2.2 (zl, zh) (meetR zl zh T1.1 T1.2.1)) (e3 : T3 = stp T2.2.2 (T1.1, T1.2.1) (lessR T2.1 T2.2.1 yl yh)) (e4 : T4 = stp T3.2.2 (xl, xh) (meetR xl xh T3.1 T3.2.1)) (e5 : T5 = stp T4.2.2 (T3.1, T3.2.1) (lessR T2.1 T2.2.1 T4.1 T4.2.1)) (e6 : T6 = stp T5.2.2 (yl, yh) (meetR yl yh T5.1 T5.2.1)) :
    (e = 0 → chk xl xh = 0 ∧ chk yl yh = 0) ∧ (T2.2.2 = 0 → chk T2.1 T2.2.1 = 0 ∧ chk yl yh = 0) ∧ (T4.2.2 = 0 → chk T2.1 T2.2.1 = 0 ∧ chk T4.1 T4.2.1 = 0) ∧ nsumAll xl xh yl yh zl zh = fin3 T6.2.2 T4 T6 T2 := by
  have g2 : T2.2.2 = 0 → chk T2.1 T2.2.1 = 0 ∧ chk yl yh = 0 := fun h => by
    rw [e2] at h
    obtain ⟨h1, h2, h3⟩ := stp_ok h
    rw [e1] at h1
    obtain ⟨h4, _, _⟩ := stp_ok h1
    rw [he] at h4
    obtain ⟨_, hy, hz⟩ := nar_ok.1 h4
    rw [e2, h3]
    exact ⟨meet_right hz h2, hy⟩
  refine ⟨fun h => ?_, g2, fun h => ?_, ?_⟩
  · rw [he] at h
    exact ⟨(nar_ok.1 h).1, (nar_ok.1 h).2.1⟩
  · rw [e4] at h
    obtain ⟨h1, h2, h3⟩ := stp_ok h
    rw [e3] at h1
    obtain ⟨h4, _, _⟩ := stp_ok h1
    have h5 := h4
    rw [e2] at h5
    obtain ⟨h6, _, _⟩ := stp_ok h5
    rw [e1] at h6
    obtain ⟨h7, _, _⟩ := stp_ok h6
    rw [he] at h7
    refine ⟨(g2 h4).1, ?_⟩
    rw [e4, h3]
    exact meet_right (nar_ok.1 h7).1 h2
  · unfold fin3
    by_cases c : narF xl xh yl yh zl zh = 0
    · rw [nsumAll_yes c]
      rw [stp_yes (he.trans c)] at e1
      rw [nsum_is e1.symm rfl rfl rfl rfl rfl]
      by_cases t : T1.2.2 = 0
      · rw [stp_yes t] at e2
        rw [if_pos t, ← e2]
        by_cases d : T2.2.2 = 0
        · rw [stp_yes d] at e3
          rw [if_pos d, ← e3]
          by_cases u : T3.2.2 = 0
          · rw [stp_yes u] at e4
            rw [if_pos u, ← e4]
            by_cases a : T4.2.2 = 0
            · rw [stp_yes a] at e5
              rw [if_pos a, ← e5]
              by_cases v : T5.2.2 = 0
              · rw [stp_yes v] at e6
                rw [if_pos v, ← e6]
              · rw [stp_not v] at e6
                rw [if_neg v, e6, if_neg v]
            · have k5 : T5.2.2 = T4.2.2 := by rw [e5]; exact stp_bad a
              have k6 : T6.2.2 = T4.2.2 := by rw [e6, stp_bad (by rw [k5]; exact a), k5]
              rw [if_neg a, k6, if_neg a]
          · have k4 : T4.2.2 = T3.2.2 := by rw [e4]; exact stp_bad u
            have k5 : T5.2.2 = T3.2.2 := by rw [e5, stp_bad (by rw [k4]; exact u), k4]
            have k6 : T6.2.2 = T3.2.2 := by rw [e6, stp_bad (by rw [k5]; exact u), k5]
            rw [if_neg u, k6, if_neg u]
        · have k3 : T3.2.2 = T2.2.2 := by rw [e3]; exact stp_bad d
          have k4 : T4.2.2 = T2.2.2 := by rw [e4, stp_bad (by rw [k3]; exact d), k3]
          have k5 : T5.2.2 = T2.2.2 := by rw [e5, stp_bad (by rw [k4]; exact d), k4]
          have k6 : T6.2.2 = T2.2.2 := by rw [e6, stp_bad (by rw [k5]; exact d), k5]
          rw [if_neg d, k6, if_neg d]
      · have k2 : T2.2.2 = T1.2.2 := by rw [e2]; exact stp_bad t
        have k3 : T3.2.2 = T1.2.2 := by rw [e3, stp_bad (by rw [k2]; exact t), k2]
        have k4 : T4.2.2 = T1.2.2 := by rw [e4, stp_bad (by rw [k3]; exact t), k3]
        have k5 : T5.2.2 = T1.2.2 := by rw [e5, stp_bad (by rw [k4]; exact t), k4]
        have k6 : T6.2.2 = T1.2.2 := by rw [e6, stp_bad (by rw [k5]; exact t), k5]
        rw [if_neg t, k6, if_neg t]
    · rw [nsumAll_not c]
      have c' : ¬ e = 0 := by rw [he]; exact c
      have k1 : T1.2.2 = e := by rw [e1]; exact stp_bad c'
      have k2 : T2.2.2 = e := by rw [e2, stp_bad (by rw [k1]; exact c'), k1]
      have k3 : T3.2.2 = e := by rw [e3, stp_bad (by rw [k2]; exact c'), k2]
      have k4 : T4.2.2 = e := by rw [e4, stp_bad (by rw [k3]; exact c'), k3]
      have k5 : T5.2.2 = e := by rw [e5, stp_bad (by rw [k4]; exact c'), k4]
      have k6 : T6.2.2 = e := by rw [e6, stp_bad (by rw [k5]; exact c'), k5]
      rw [k6, if_neg c', he]
/-- Back by the other one, while nothing is wrong, and only if 0 is not in that. -/
def bk (e : Int) (X : Int × Int) (cl ch yl yh : Int) : Int × Int × Int := if e = 0 ∧ ¬ (yl ≤ 0 ∧ 0 ≤ yh) then (if (sbyR cl ch yl yh).2.2 = 0 then meetR X.1 X.2 (sbyR cl ch yl yh).1 (sbyR cl ch yl yh).2.1 else (X.1, X.2, (sbyR cl ch yl yh).2.2)) else (X.1, X.2, e)
theorem bk_not {e : Int} {X : Int × Int} {cl ch yl yh : Int} (h : ¬ (e = 0 ∧ ¬ (yl ≤ 0 ∧ 0 ≤ yh))) : bk e X cl ch yl yh = (X.1, X.2, e) := by unfold bk; rw [if_neg h]
theorem bk_bad {e : Int} {X : Int × Int} {cl ch yl yh : Int} (h : e = 0 ∧ ¬ (yl ≤ 0 ∧ 0 ≤ yh)) (h2 : ¬ (sbyR cl ch yl yh).2.2 = 0) : bk e X cl ch yl yh = (X.1, X.2, (sbyR cl ch yl yh).2.2) := by unfold bk; rw [if_pos h, if_neg h2]
theorem bk_yes {e : Int} {X : Int × Int} {cl ch yl yh : Int} (h : e = 0 ∧ ¬ (yl ≤ 0 ∧ 0 ≤ yh)) (h2 : (sbyR cl ch yl yh).2.2 = 0) : bk e X cl ch yl yh = meetR X.1 X.2 (sbyR cl ch yl yh).1 (sbyR cl ch yl yh).2.1 := by unfold bk; rw [if_pos h, if_pos h2]
theorem bk_back {e xl xh cl ch yl yh : Int} (h : e = 0) : (bk e (xl, xh) cl ch yl yh).2.2 = (backR xl xh cl ch yl yh).2.2 ∧ ((backR xl xh cl ch yl yh).2.2 = 0 → bk e (xl, xh) cl ch yl yh = backR xl xh cl ch yl yh) := by
  unfold bk backR
  by_cases z : yl ≤ 0 ∧ 0 ≤ yh
  · rw [if_neg (fun g => g.2 z), if_pos z]; exact ⟨h, fun _ => by rw [h]⟩
  · rw [if_pos ⟨h, z⟩, if_neg z]
    by_cases u : (sbyR cl ch yl yh).2.2 = 0
    · rw [if_pos u, if_pos u]; exact ⟨rfl, fun _ => rfl⟩
    · rw [if_neg u, if_neg u]; exact ⟨rfl, fun g => absurd g u⟩
theorem bk_stay {e : Int} {X : Int × Int} {cl ch yl yh : Int} (h : ¬ e = 0) : (bk e X cl ch yl yh).2.2 = e := by rw [bk_not (fun g => h g.1)]
theorem times_steps {U1 U2 V1 V2 : Int × Int × Int} (he : e = narF xl xh yl yh zl zh) (e1 : U1 = stp e t0 (stimesR xl xh yl yh)) (e2 : U2 = stp U1.2.2 (zl, zh) (meetR zl zh U1.1 U1.2.1)) (e3 : V1 = bk U2.2.2 (xl, xh) U2.1 U2.2.1 yl yh) (e4 : V2 = bk V1.2.2 (yl, yh) U2.1 U2.2.1 V1.1 V1.2.1) :
    (e = 0 → chk xl xh = 0 ∧ chk yl yh = 0) ∧ (U2.2.2 = 0 → chk U2.1 U2.2.1 = 0 ∧ chk yl yh = 0) ∧ (V1.2.2 = 0 → chk U2.1 U2.2.1 = 0 ∧ chk V1.1 V1.2.1 = 0) ∧ ntimesAll xl xh yl yh zl zh = fin3 V2.2.2 V1 V2 U2 := by
  have g1 : U2.2.2 = 0 → e = 0 ∧ U2 = meetR zl zh U1.1 U1.2.1 ∧ (meetR zl zh U1.1 U1.2.1).2.2 = 0 := fun h => by
    rw [e2] at h
    obtain ⟨h1, h2, h3⟩ := stp_ok h
    rw [e1] at h1
    obtain ⟨h4, _, _⟩ := stp_ok h1
    exact ⟨h4, by rw [e2, h3], h2⟩
  have g2 : U2.2.2 = 0 → chk U2.1 U2.2.1 = 0 ∧ chk yl yh = 0 := fun h => by
    obtain ⟨h4, h5, h6⟩ := g1 h
    rw [he] at h4
    rw [h5]
    exact ⟨meet_right (nar_ok.1 h4).2.2 h6, (nar_ok.1 h4).2.1⟩
  have u0 : V1.2.2 = 0 → U2.2.2 = 0 := fun h => by
    by_cases d : U2.2.2 = 0
    · exact d
    · rw [e3, bk_stay d] at h; exact absurd h d
  refine ⟨fun h => ?_, g2, fun h => ?_, ?_⟩
  · rw [he] at h
    exact ⟨(nar_ok.1 h).1, (nar_ok.1 h).2.1⟩
  · have d := u0 h
    have hx : chk xl xh = 0 := by
      have := (g1 d).1
      rw [he] at this
      exact (nar_ok.1 this).1
    obtain ⟨b1, b2⟩ := bk_back (xl := xl) (xh := xh) (cl := U2.1) (ch := U2.2.1) (yl := yl) (yh := yh) d
    rw [← e3] at b1 b2
    have hb : (backR xl xh U2.1 U2.2.1 yl yh).2.2 = 0 := by rw [← b1]; exact h
    refine ⟨(g2 d).1, ?_⟩
    rw [b2 hb]
    exact back_right hx hb
  · unfold fin3
    by_cases c : narF xl xh yl yh zl zh = 0
    · rw [ntimesAll_yes c]
      rw [stp_yes (he.trans c)] at e1
      rw [ntimes_is e1.symm rfl rfl rfl]
      by_cases t : U1.2.2 = 0
      · rw [stp_yes t] at e2
        rw [if_pos t, ← e2]
        by_cases d : U2.2.2 = 0
        · rw [if_pos d]
          obtain ⟨b1, b2⟩ := bk_back (xl := xl) (xh := xh) (cl := U2.1) (ch := U2.2.1) (yl := yl) (yh := yh) d
          rw [← e3] at b1 b2
          by_cases a : (backR xl xh U2.1 U2.2.1 yl yh).2.2 = 0
          · rw [if_pos a, ← b2 a]
            have a' : V1.2.2 = 0 := by rw [b1]; exact a
            obtain ⟨c1, c2⟩ := bk_back (xl := yl) (xh := yh) (cl := U2.1) (ch := U2.2.1) (yl := V1.1) (yh := V1.2.1) a'
            rw [← e4] at c1 c2
            by_cases b : (backR yl yh U2.1 U2.2.1 V1.1 V1.2.1).2.2 = 0
            · rw [if_pos b, ← c2 b, if_pos (by rw [c1]; exact b)]
            · rw [if_neg b, c1, if_neg b]
          · have a' : ¬ V1.2.2 = 0 := by rw [b1]; exact a
            have k : V2.2.2 = V1.2.2 := by rw [e4]; exact bk_stay a'
            rw [if_neg a, k, if_neg a', b1]
        · have k3 : V1.2.2 = U2.2.2 := by rw [e3]; exact bk_stay d
          have k4 : V2.2.2 = U2.2.2 := by rw [e4, bk_stay (by rw [k3]; exact d), k3]
          rw [if_neg d, k4, if_neg d]
      · have k2 : U2.2.2 = U1.2.2 := by rw [e2]; exact stp_bad t
        have k3 : V1.2.2 = U1.2.2 := by rw [e3, bk_stay (by rw [k2]; exact t), k2]
        have k4 : V2.2.2 = U1.2.2 := by rw [e4, bk_stay (by rw [k3]; exact t), k3]
        rw [if_neg t, k4, if_neg t]
    · rw [ntimesAll_not c]
      have c' : ¬ e = 0 := by rw [he]; exact c
      have k1 : U1.2.2 = e := by rw [e1]; exact stp_bad c'
      have k2 : U2.2.2 = e := by rw [e2, stp_bad (by rw [k1]; exact c'), k1]
      have k3 : V1.2.2 = e := by rw [e3, bk_stay (by rw [k2]; exact c'), k2]
      have k4 : V2.2.2 = e := by rw [e4, bk_stay (by rw [k3]; exact c'), k3]
      rw [k4, if_neg c', he]
end
end Um
