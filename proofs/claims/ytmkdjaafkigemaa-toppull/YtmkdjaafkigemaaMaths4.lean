/-
  Plain arithmetic of what goes together as the code makes it, no program: a span is met with what is made of two others; first the third one, then each of both by the way back.
  Plain arithmetic of what goes together, no program: the document's answer step by step, a step only while nothing is wrong.
  Plain arithmetic of what goes together, no program: of a product that need not be whole, by a thousand parts; and of a product that came out of a polynomial's range.
  Plain arithmetic of what comes closer, no program: how polynomials change at anything; the bound of a step, polynomial by polynomial; whether it pulls together; that two points are no further apart than the bound says.
  Plain arithmetic of two points that come closer, no program: the greatest distance of two points; a step, and two paths of a box that pulls together.
-/
import Derived.Test.YtmkdjaafkigemaaMaths3
import Derived.Test.YtmkdjaafkigemaaMaths
import Derived.Test.YtmkdjaafkigemaaMaths2
namespace Um
set_option linter.unusedSimpArgs false

/-- Met with what was made, if nothing was wrong with that. -/
def metR (ol oh : Int) (M : Int × Int × Int) : Int × Int × Int := if M.2.2 = 0 then made (meetR ol oh M.1 M.2.1) ol oh M.1 M.2.1 else (0, 0, M.2.2)
theorem met_yes {ol oh : Int} {M : Int × Int × Int} (h : M.2.2 = 0) : metR ol oh M = made (meetR ol oh M.1 M.2.1) ol oh M.1 M.2.1 := by unfold metR; rw [if_pos h]
theorem met_not {ol oh : Int} {M : Int × Int × Int} (h : ¬ M.2.2 = 0) : metR ol oh M = (0, 0, M.2.2) := by unfold metR; rw [if_neg h]
abbrev Op3 := Int → Int → Int → Int → Int → Int → Int × Int × Int
def mAdd : Op3 := fun ol oh al ah bl bh => metR ol oh (made (addR al ah bl bh) al ah bl bh)
def mLess : Op3 := fun ol oh al ah bl bh => metR ol oh (made (lessR al ah bl bh) al ah bl bh)
def mTimes : Op3 := fun ol oh al ah bl bh => metR ol oh (made (stimesR al ah bl bh) al ah bl bh)
def mBy : Op3 := fun ol oh al ah bl bh => metR ol oh (made (sbyR al ah bl bh) al ah bl bh)
/-- Only where 0 is not in the last one. -/
def unR (R : Op3) : Op3 := fun ol oh al ah bl bh => if bl ≤ 0 ∧ 0 ≤ bh then (ol, oh, 0) else R ol oh al ah bl bh
theorem un_yes {R : Op3} {ol oh al ah bl bh : Int} (h : bl ≤ 0 ∧ 0 ≤ bh) : unR R ol oh al ah bl bh = (ol, oh, 0) := by unfold unR; rw [if_pos h]
theorem un_not {R : Op3} {ol oh al ah bl bh : Int} (h : ¬ (bl ≤ 0 ∧ 0 ≤ bh)) : unR R ol oh al ah bl bh = R ol oh al ah bl bh := by unfold unR; rw [if_neg h]
/-- The third one, then the first, then the second. -/
def togR (R1 R2 : Op3) (xl xh yl yh zl zh : Int) : Three :=
  if narF xl xh yl yh zl zh = 0 then
    (let C := R1 zl zh xl xh yl yh
     if C.2.2 = 0 then
      (let A := R2 xl xh C.1 C.2.1 yl yh
       if A.2.2 = 0 then
        (let B := R2 yl yh C.1 C.2.1 A.1 A.2.1
         if B.2.2 = 0 then ((A.1, A.2.1), (B.1, B.2.1), (C.1, C.2.1), 0) else no3 B.2.2)
       else no3 A.2.2)
     else no3 C.2.2)
  else no3 (narF xl xh yl yh zl zh)
theorem tog_bad {R1 R2 : Op3} {xl xh yl yh zl zh : Int} (h : ¬ narF xl xh yl yh zl zh = 0) : togR R1 R2 xl xh yl yh zl zh = no3 (narF xl xh yl yh zl zh) := by unfold togR; rw [if_neg h]
theorem tog_is {R1 R2 : Op3} {xl xh yl yh zl zh : Int} {C A B : Int × Int × Int} (h : narF xl xh yl yh zl zh = 0) (eC : R1 zl zh xl xh yl yh = C) (eA : R2 xl xh C.1 C.2.1 yl yh = A) (eB : R2 yl yh C.1 C.2.1 A.1 A.2.1 = B) :
    togR R1 R2 xl xh yl yh zl zh = if C.2.2 = 0 then (if A.2.2 = 0 then (if B.2.2 = 0 then ((A.1, A.2.1), (B.1, B.2.1), (C.1, C.2.1), 0) else no3 B.2.2) else no3 A.2.2) else no3 C.2.2 := by
  subst eC; subst eA; subst eB
  unfold togR; rw [if_pos h]
theorem meet_right {al ah bl bh : Int} (h1 : chk al ah = 0) (h : (meetR al ah bl bh).2.2 = 0) : chk (meetR al ah bl bh).1 (meetR al ah bl bh).2.1 = 0 := by
  obtain ⟨_, b, _, d, e⟩ := meet_in h
  obtain ⟨m1, m2, _⟩ := chk_ok.1 h1
  obtain ⟨a1, a2⟩ := (may_iff _).1 m1
  obtain ⟨a3, a4⟩ := (may_iff _).1 m2
  exact chk_ok.2 ⟨(may_iff _).2 ⟨by omega, by omega⟩, (may_iff _).2 ⟨by omega, by omega⟩, b⟩
/-- Of right spans: met with what is made of both. -/
theorem met_right {R : Int × Int × Int} {ol oh al ah bl bh : Int} (ho : chk ol oh = 0) (ha : chk al ah = 0) (hb : chk bl bh = 0) (hR : R.2.2 = 0 → chk R.1 R.2.1 = 0) : metR ol oh (made R al ah bl bh) = if R.2.2 = 0 then meetR ol oh R.1 R.2.1 else (0, 0, R.2.2) := by
  rw [made_good ha hb]
  by_cases h : R.2.2 = 0
  · rw [if_pos h, met_yes h, made_good ho (hR h)]
  · rw [if_neg h, met_not h]
theorem met_chk {R : Int × Int × Int} {ol oh : Int} (ho : chk ol oh = 0) (h : (if R.2.2 = 0 then meetR ol oh R.1 R.2.1 else (0, 0, R.2.2)).2.2 = 0) : R.2.2 = 0 ∧ chk (if R.2.2 = 0 then meetR ol oh R.1 R.2.1 else (0, 0, R.2.2)).1 (if R.2.2 = 0 then meetR ol oh R.1 R.2.1 else (0, 0, R.2.2)).2.1 = 0 := by
  by_cases c : R.2.2 = 0
  · rw [if_pos c] at h ⊢
    exact ⟨c, meet_right ho h⟩
  · rw [if_neg c] at h; exact absurd h c
theorem add_right3 {al ah bl bh : Int} (ha : chk al ah = 0) (hb : chk bl bh = 0) : (addR al ah bl bh).2.2 = 0 → chk (addR al ah bl bh).1 (addR al ah bl bh).2.1 = 0 := fun h => add_chk (chk_ok.1 ha).2.2 (chk_ok.1 hb).2.2 h
theorem less_right3 {al ah bl bh : Int} (ha : chk al ah = 0) (hb : chk bl bh = 0) : (lessR al ah bl bh).2.2 = 0 → chk (lessR al ah bl bh).1 (lessR al ah bl bh).2.1 = 0 := fun h => less_right (chk_ok.1 ha).2.2 (chk_ok.1 hb).2.2 h
theorem times_right3 {al ah bl bh : Int} (ha : chk al ah = 0) (hb : chk bl bh = 0) : (stimesR al ah bl bh).2.2 = 0 → chk (stimesR al ah bl bh).1 (stimesR al ah bl bh).2.1 = 0 := fun h => stimes_chk (chk_ok.1 ha).2.2 (chk_ok.1 hb).2.2 h
theorem by_right3 {al ah bl bh : Int} (hb : chk bl bh = 0) : (sbyR al ah bl bh).2.2 = 0 → chk (sbyR al ah bl bh).1 (sbyR al ah bl bh).2.1 = 0 := fun h => sby_chk (chk_ok.1 hb).2.2 h
/-- As a sum the code's way is the document's. -/
theorem tog_sum (xl xh yl yh zl zh : Int) : togR mAdd mLess xl xh yl yh zl zh = nsumAll xl xh yl yh zl zh := by
  by_cases c : narF xl xh yl yh zl zh = 0
  · obtain ⟨hx, hy, hz⟩ := nar_ok.1 c
    rw [nsumAll_yes c, tog_is c rfl rfl rfl, nsum_is rfl rfl rfl rfl rfl rfl]
    have eC : mAdd zl zh xl xh yl yh = _ := met_right hz hx hy (add_right3 hx hy)
    rw [eC]
    have kC := met_chk (R := addR xl xh yl yh) hz
    by_cases t : (addR xl xh yl yh).2.2 = 0
    · rw [if_pos t] at kC ⊢
      rw [if_pos t]
      generalize meetR zl zh (addR xl xh yl yh).1 (addR xl xh yl yh).2.1 = C at *
      by_cases d : C.2.2 = 0
      · have hC := (kC d).2
        rw [if_pos d, if_pos d]
        have eA : mLess xl xh C.1 C.2.1 yl yh = _ := met_right hx hC hy (less_right3 hC hy)
        rw [eA]
        have kA := met_chk (R := lessR C.1 C.2.1 yl yh) hx
        by_cases u : (lessR C.1 C.2.1 yl yh).2.2 = 0
        · rw [if_pos u] at kA ⊢
          rw [if_pos u]
          generalize meetR xl xh (lessR C.1 C.2.1 yl yh).1 (lessR C.1 C.2.1 yl yh).2.1 = A at *
          by_cases a : A.2.2 = 0
          · have hA := (kA a).2
            rw [if_pos a, if_pos a]
            have eB : mLess yl yh C.1 C.2.1 A.1 A.2.1 = _ := met_right hy hC hA (less_right3 hC hA)
            rw [eB]
            by_cases v : (lessR C.1 C.2.1 A.1 A.2.1).2.2 = 0
            · rw [if_pos v, if_pos v]
            · rw [if_neg v, if_neg v, if_neg v]
          · rw [if_neg a, if_neg a]
        · rw [if_neg u, if_neg u, if_neg u]
      · rw [if_neg d, if_neg d]
    · rw [if_neg t, if_neg t, if_neg t]
  · rw [tog_bad c, nsumAll_not c]
theorem un_back {ol oh al ah bl bh : Int} (ho : chk ol oh = 0) (ha : chk al ah = 0) (hb : chk bl bh = 0) : unR mBy ol oh al ah bl bh = backR ol oh al ah bl bh := by
  unfold unR backR
  by_cases z : bl ≤ 0 ∧ 0 ≤ bh
  · rw [if_pos z, if_pos z]
  · rw [if_neg z, if_neg z]
    exact met_right ho ha hb (by_right3 hb)
theorem back_right {xl xh cl ch yl yh : Int} (hx : chk xl xh = 0) (h : (backR xl xh cl ch yl yh).2.2 = 0) : chk (backR xl xh cl ch yl yh).1 (backR xl xh cl ch yl yh).2.1 = 0 := by
  unfold backR at h ⊢
  by_cases z : yl ≤ 0 ∧ 0 ≤ yh
  · rw [if_pos z]; exact hx
  · rw [if_neg z] at h ⊢
    exact (met_chk hx h).2
/-- As a product likewise. -/
theorem tog_times (xl xh yl yh zl zh : Int) : togR mTimes (unR mBy) xl xh yl yh zl zh = ntimesAll xl xh yl yh zl zh := by
  by_cases c : narF xl xh yl yh zl zh = 0
  · obtain ⟨hx, hy, hz⟩ := nar_ok.1 c
    rw [ntimesAll_yes c, tog_is c rfl rfl rfl, ntimes_is rfl rfl rfl rfl]
    have eC : mTimes zl zh xl xh yl yh = _ := met_right hz hx hy (times_right3 hx hy)
    rw [eC]
    have kC := met_chk (R := stimesR xl xh yl yh) hz
    by_cases t : (stimesR xl xh yl yh).2.2 = 0
    · rw [if_pos t] at kC ⊢
      rw [if_pos t]
      generalize meetR zl zh (stimesR xl xh yl yh).1 (stimesR xl xh yl yh).2.1 = C at *
      by_cases d : C.2.2 = 0
      · have hC := (kC d).2
        rw [if_pos d, if_pos d, un_back hx hC hy]
        have kA := back_right (xl := xl) (xh := xh) (cl := C.1) (ch := C.2.1) (yl := yl) (yh := yh) hx
        generalize backR xl xh C.1 C.2.1 yl yh = A at *
        by_cases a : A.2.2 = 0
        · rw [if_pos a, if_pos a, un_back hy hC (kA a)]
        · rw [if_neg a, if_neg a]
      · rw [if_neg d, if_neg d]
    · rw [if_neg t, if_neg t, if_neg t]
  · rw [tog_bad c, ntimesAll_not c]
/-- What is wrong with three, as a row. -/
theorem nar_sides (xl xh yl yh zl zh : Int) : sidesF [(xl, xh), (yl, yh), (zl, zh)] = narF xl xh yl yh zl zh := by
  unfold narF
  simp only [sidesF]
  by_cases h : chk xl xh = 0
  · by_cases h2 : chk yl yh = 0
    · by_cases h3 : chk zl zh = 0
      · simp [h, h2, h3]
      · simp [h, h2, h3]
    · simp [h, h2]
  · simp [h]
end Um
namespace Um
set_option linter.unusedSimpArgs false

/-- One step: what was there, or what is made in its place, and what is wrong. -/
def stp (e : Int) (X : Int × Int) (M : Int × Int × Int) : Int × Int × Int := if e = 0 then M else (X.1, X.2, e)
theorem stp_yes {e : Int} {X : Int × Int} {M : Int × Int × Int} (h : e = 0) : stp e X M = M := by unfold stp; rw [if_pos h]
theorem stp_not {e : Int} {X : Int × Int} {M : Int × Int × Int} (h : ¬ e = 0) : stp e X M = (X.1, X.2, e) := by unfold stp; rw [if_neg h]
theorem stp_ok {e : Int} {X : Int × Int} {M : Int × Int × Int} (h : (stp e X M).2.2 = 0) : e = 0 ∧ M.2.2 = 0 ∧ stp e X M = M := by
  by_cases c : e = 0
  · rw [stp_yes c] at h ⊢; exact ⟨c, h, rfl⟩
  · rw [stp_not c] at h; exact absurd h c
theorem stp_bad {e : Int} {X : Int × Int} {M : Int × Int × Int} (h : ¬ e = 0) : (stp e X M).2.2 = e := by rw [stp_not h]
/-- What is told at the end. -/
def fin3 (e : Int) (A B C : Int × Int × Int) : Three := if e = 0 then ((A.1, A.2.1), (B.1, B.2.1), (C.1, C.2.1), 0) else no3 e
theorem two_nar {xl xh yl yh zl zh : Int} (h : two xl xh yl yh = 0) : narF xl xh yl yh zl zh = chk zl zh := by
  obtain ⟨h1, h2⟩ := two_ok.1 h
  unfold narF; rw [if_pos h1, if_pos h2]
theorem two_not {xl xh yl yh zl zh : Int} (h : ¬ two xl xh yl yh = 0) : narF xl xh yl yh zl zh = two xl xh yl yh := by
  unfold narF two at *
  by_cases h1 : chk xl xh = 0
  · rw [if_pos h1] at h ⊢
    rw [if_neg h, if_pos h1]
  · rw [if_neg h1, if_neg h1]
section
variable {xl xh yl yh zl zh e : Int} {t0 : Int × Int}
theorem sum_steps {T1 T2 T3 T4 T5 T6 : Int × Int × Int} (he : e = narF xl xh yl yh zl zh) (e1 : T1 = stp e t0 (addR xl xh yl yh)) (e2 : T2 = stp T1.2.2 (zl, zh) (meetR zl zh T1.1 T1.2.1)) (e3 : T3 = stp T2.2.2 (T1.1, T1.2.1) (lessR T2.1 T2.2.1 yl yh)) (e4 : T4 = stp T3.2.2 (xl, xh) (meetR xl xh T3.1 T3.2.1)) (e5 : T5 = stp T4.2.2 (T3.1, T3.2.1) (lessR T2.1 T2.2.1 T4.1 T4.2.1)) (e6 : T6 = stp T5.2.2 (yl, yh) (meetR yl yh T5.1 T5.2.1)) :
    (e = 0 → chk xl xh = 0 ∧ chk yl yh = 0) ∧ (T2.2.2 = 0 → chk T2.1 T2.2.1 = 0 ∧ chk yl yh = 0) ∧ (T4.2.2 = 0 → chk T2.1 T2.2.1 = 0 ∧ chk T4.1 T4.2.1 = 0) ∧ nsumAll xl xh yl yh zl zh = fin3 T6.2.2 T4 T6 T2 := by
  have g2 : T2.2.2 = 0 → chk T2.1 T2.2.1 = 0 ∧ chk yl yh = 0 := fun h => by
    rw [e2] at h
    obtain ⟨h1, h2, h3⟩ := stp_ok h
    rw [e1] at h1
    obtain ⟨h4, _, _⟩ := stp_ok h1
    rw [he] at h4
    obtain ⟨_, hy, hz⟩ := nar_ok.1 h4
    rw [e2, h3]
    exact ⟨meet_right hz h2, hy⟩
  refine ⟨fun h => ?_, g2, fun h => ?_, ?_⟩
  · rw [he] at h
    exact ⟨(nar_ok.1 h).1, (nar_ok.1 h).2.1⟩
  · rw [e4] at h
    obtain ⟨h1, h2, h3⟩ := stp_ok h
    rw [e3] at h1
    obtain ⟨h4, _, _⟩ := stp_ok h1
    have h5 := h4
    rw [e2] at h5
    obtain ⟨h6, _, _⟩ := stp_ok h5
    rw [e1] at h6
    obtain ⟨h7, _, _⟩ := stp_ok h6
    rw [he] at h7
    refine ⟨(g2 h4).1, ?_⟩
    rw [e4, h3]
    exact meet_right (nar_ok.1 h7).1 h2
  · unfold fin3
    by_cases c : narF xl xh yl yh zl zh = 0
    · rw [nsumAll_yes c]
      rw [stp_yes (he.trans c)] at e1
      rw [nsum_is e1.symm rfl rfl rfl rfl rfl]
      by_cases t : T1.2.2 = 0
      · rw [stp_yes t] at e2
        rw [if_pos t, ← e2]
        by_cases d : T2.2.2 = 0
        · rw [stp_yes d] at e3
          rw [if_pos d, ← e3]
          by_cases u : T3.2.2 = 0
          · rw [stp_yes u] at e4
            rw [if_pos u, ← e4]
            by_cases a : T4.2.2 = 0
            · rw [stp_yes a] at e5
              rw [if_pos a, ← e5]
              by_cases v : T5.2.2 = 0
              · rw [stp_yes v] at e6
                rw [if_pos v, ← e6]
              · rw [stp_not v] at e6
                rw [if_neg v, e6, if_neg v]
            · have k5 : T5.2.2 = T4.2.2 := by rw [e5]; exact stp_bad a
              have k6 : T6.2.2 = T4.2.2 := by rw [e6, stp_bad (by rw [k5]; exact a), k5]
              rw [if_neg a, k6, if_neg a]
          · have k4 : T4.2.2 = T3.2.2 := by rw [e4]; exact stp_bad u
            have k5 : T5.2.2 = T3.2.2 := by rw [e5, stp_bad (by rw [k4]; exact u), k4]
            have k6 : T6.2.2 = T3.2.2 := by rw [e6, stp_bad (by rw [k5]; exact u), k5]
            rw [if_neg u, k6, if_neg u]
        · have k3 : T3.2.2 = T2.2.2 := by rw [e3]; exact stp_bad d
          have k4 : T4.2.2 = T2.2.2 := by rw [e4, stp_bad (by rw [k3]; exact d), k3]
          have k5 : T5.2.2 = T2.2.2 := by rw [e5, stp_bad (by rw [k4]; exact d), k4]
          have k6 : T6.2.2 = T2.2.2 := by rw [e6, stp_bad (by rw [k5]; exact d), k5]
          rw [if_neg d, k6, if_neg d]
      · have k2 : T2.2.2 = T1.2.2 := by rw [e2]; exact stp_bad t
        have k3 : T3.2.2 = T1.2.2 := by rw [e3, stp_bad (by rw [k2]; exact t), k2]
        have k4 : T4.2.2 = T1.2.2 := by rw [e4, stp_bad (by rw [k3]; exact t), k3]
        have k5 : T5.2.2 = T1.2.2 := by rw [e5, stp_bad (by rw [k4]; exact t), k4]
        have k6 : T6.2.2 = T1.2.2 := by rw [e6, stp_bad (by rw [k5]; exact t), k5]
        rw [if_neg t, k6, if_neg t]
    · rw [nsumAll_not c]
      have c' : ¬ e = 0 := by rw [he]; exact c
      have k1 : T1.2.2 = e := by rw [e1]; exact stp_bad c'
      have k2 : T2.2.2 = e := by rw [e2, stp_bad (by rw [k1]; exact c'), k1]
      have k3 : T3.2.2 = e := by rw [e3, stp_bad (by rw [k2]; exact c'), k2]
      have k4 : T4.2.2 = e := by rw [e4, stp_bad (by rw [k3]; exact c'), k3]
      have k5 : T5.2.2 = e := by rw [e5, stp_bad (by rw [k4]; exact c'), k4]
      have k6 : T6.2.2 = e := by rw [e6, stp_bad (by rw [k5]; exact c'), k5]
      rw [k6, if_neg c', he]
/-- Back by the other one, while nothing is wrong, and only if 0 is not in that. -/
def bk (e : Int) (X : Int × Int) (cl ch yl yh : Int) : Int × Int × Int := if e = 0 ∧ ¬ (yl ≤ 0 ∧ 0 ≤ yh) then (if (sbyR cl ch yl yh).2.2 = 0 then meetR X.1 X.2 (sbyR cl ch yl yh).1 (sbyR cl ch yl yh).2.1 else (X.1, X.2, (sbyR cl ch yl yh).2.2)) else (X.1, X.2, e)
theorem bk_not {e : Int} {X : Int × Int} {cl ch yl yh : Int} (h : ¬ (e = 0 ∧ ¬ (yl ≤ 0 ∧ 0 ≤ yh))) : bk e X cl ch yl yh = (X.1, X.2, e) := by unfold bk; rw [if_neg h]
theorem bk_bad {e : Int} {X : Int × Int} {cl ch yl yh : Int} (h : e = 0 ∧ ¬ (yl ≤ 0 ∧ 0 ≤ yh)) (h2 : ¬ (sbyR cl ch yl yh).2.2 = 0) : bk e X cl ch yl yh = (X.1, X.2, (sbyR cl ch yl yh).2.2) := by unfold bk; rw [if_pos h, if_neg h2]
theorem bk_yes {e : Int} {X : Int × Int} {cl ch yl yh : Int} (h : e = 0 ∧ ¬ (yl ≤ 0 ∧ 0 ≤ yh)) (h2 : (sbyR cl ch yl yh).2.2 = 0) : bk e X cl ch yl yh = meetR X.1 X.2 (sbyR cl ch yl yh).1 (sbyR cl ch yl yh).2.1 := by unfold bk; rw [if_pos h, if_pos h2]
theorem bk_back {e xl xh cl ch yl yh : Int} (h : e = 0) : (bk e (xl, xh) cl ch yl yh).2.2 = (backR xl xh cl ch yl yh).2.2 ∧ ((backR xl xh cl ch yl yh).2.2 = 0 → bk e (xl, xh) cl ch yl yh = backR xl xh cl ch yl yh) := by
  unfold bk backR
  by_cases z : yl ≤ 0 ∧ 0 ≤ yh
  · rw [if_neg (fun g => g.2 z), if_pos z]; exact ⟨h, fun _ => by rw [h]⟩
  · rw [if_pos ⟨h, z⟩, if_neg z]
    by_cases u : (sbyR cl ch yl yh).2.2 = 0
    · rw [if_pos u, if_pos u]; exact ⟨rfl, fun _ => rfl⟩
    · rw [if_neg u, if_neg u]; exact ⟨rfl, fun g => absurd g u⟩
theorem bk_stay {e : Int} {X : Int × Int} {cl ch yl yh : Int} (h : ¬ e = 0) : (bk e X cl ch yl yh).2.2 = e := by rw [bk_not (fun g => h g.1)]
theorem times_steps {U1 U2 V1 V2 : Int × Int × Int} (he : e = narF xl xh yl yh zl zh) (e1 : U1 = stp e t0 (stimesR xl xh yl yh)) (e2 : U2 = stp U1.2.2 (zl, zh) (meetR zl zh U1.1 U1.2.1)) (e3 : V1 = bk U2.2.2 (xl, xh) U2.1 U2.2.1 yl yh) (e4 : V2 = bk V1.2.2 (yl, yh) U2.1 U2.2.1 V1.1 V1.2.1) :
    (e = 0 → chk xl xh = 0 ∧ chk yl yh = 0) ∧ (U2.2.2 = 0 → chk U2.1 U2.2.1 = 0 ∧ chk yl yh = 0) ∧ (V1.2.2 = 0 → chk U2.1 U2.2.1 = 0 ∧ chk V1.1 V1.2.1 = 0) ∧ ntimesAll xl xh yl yh zl zh = fin3 V2.2.2 V1 V2 U2 := by
  have g1 : U2.2.2 = 0 → e = 0 ∧ U2 = meetR zl zh U1.1 U1.2.1 ∧ (meetR zl zh U1.1 U1.2.1).2.2 = 0 := fun h => by
    rw [e2] at h
    obtain ⟨h1, h2, h3⟩ := stp_ok h
    rw [e1] at h1
    obtain ⟨h4, _, _⟩ := stp_ok h1
    exact ⟨h4, by rw [e2, h3], h2⟩
  have g2 : U2.2.2 = 0 → chk U2.1 U2.2.1 = 0 ∧ chk yl yh = 0 := fun h => by
    obtain ⟨h4, h5, h6⟩ := g1 h
    rw [he] at h4
    rw [h5]
    exact ⟨meet_right (nar_ok.1 h4).2.2 h6, (nar_ok.1 h4).2.1⟩
  have u0 : V1.2.2 = 0 → U2.2.2 = 0 := fun h => by
    by_cases d : U2.2.2 = 0
    · exact d
    · rw [e3, bk_stay d] at h; exact absurd h d
  refine ⟨fun h => ?_, g2, fun h => ?_, ?_⟩
  · rw [he] at h
    exact ⟨(nar_ok.1 h).1, (nar_ok.1 h).2.1⟩
  · have d := u0 h
    have hx : chk xl xh = 0 := by
      have := (g1 d).1
      rw [he] at this
      exact (nar_ok.1 this).1
    obtain ⟨b1, b2⟩ := bk_back (xl := xl) (xh := xh) (cl := U2.1) (ch := U2.2.1) (yl := yl) (yh := yh) d
    rw [← e3] at b1 b2
    have hb : (backR xl xh U2.1 U2.2.1 yl yh).2.2 = 0 := by rw [← b1]; exact h
    refine ⟨(g2 d).1, ?_⟩
    rw [b2 hb]
    exact back_right hx hb
  · unfold fin3
    by_cases c : narF xl xh yl yh zl zh = 0
    · rw [ntimesAll_yes c]
      rw [stp_yes (he.trans c)] at e1
      rw [ntimes_is e1.symm rfl rfl rfl]
      by_cases t : U1.2.2 = 0
      · rw [stp_yes t] at e2
        rw [if_pos t, ← e2]
        by_cases d : U2.2.2 = 0
        · rw [if_pos d]
          obtain ⟨b1, b2⟩ := bk_back (xl := xl) (xh := xh) (cl := U2.1) (ch := U2.2.1) (yl := yl) (yh := yh) d
          rw [← e3] at b1 b2
          by_cases a : (backR xl xh U2.1 U2.2.1 yl yh).2.2 = 0
          · rw [if_pos a, ← b2 a]
            have a' : V1.2.2 = 0 := by rw [b1]; exact a
            obtain ⟨c1, c2⟩ := bk_back (xl := yl) (xh := yh) (cl := U2.1) (ch := U2.2.1) (yl := V1.1) (yh := V1.2.1) a'
            rw [← e4] at c1 c2
            by_cases b : (backR yl yh U2.1 U2.2.1 V1.1 V1.2.1).2.2 = 0
            · rw [if_pos b, ← c2 b, if_pos (by rw [c1]; exact b)]
            · rw [if_neg b, c1, if_neg b]
          · have a' : ¬ V1.2.2 = 0 := by rw [b1]; exact a
            have k : V2.2.2 = V1.2.2 := by rw [e4]; exact bk_stay a'
            rw [if_neg a, k, if_neg a', b1]
        · have k3 : V1.2.2 = U2.2.2 := by rw [e3]; exact bk_stay d
          have k4 : V2.2.2 = U2.2.2 := by rw [e4, bk_stay (by rw [k3]; exact d), k3]
          rw [if_neg d, k4, if_neg d]
      · have k2 : U2.2.2 = U1.2.2 := by rw [e2]; exact stp_bad t
        have k3 : V1.2.2 = U1.2.2 := by rw [e3, bk_stay (by rw [k2]; exact t), k2]
        have k4 : V2.2.2 = U1.2.2 := by rw [e4, bk_stay (by rw [k3]; exact t), k3]
        rw [if_neg t, k4, if_neg t]
    · rw [ntimesAll_not c]
      have c' : ¬ e = 0 := by rw [he]; exact c
      have k1 : U1.2.2 = e := by rw [e1]; exact stp_bad c'
      have k2 : U2.2.2 = e := by rw [e2, stp_bad (by rw [k1]; exact c'), k1]
      have k3 : V1.2.2 = e := by rw [e3, bk_stay (by rw [k2]; exact c'), k2]
      have k4 : V2.2.2 = e := by rw [e4, bk_stay (by rw [k3]; exact c'), k3]
      rw [k4, if_neg c', he]
end
end Um
namespace Um
set_option linter.unusedSimpArgs false

theorem meet_parts {al ah bl bh v : Int} (h1 : al * 1000 ≤ v) (h2 : v ≤ ah * 1000) (h3 : bl * 1000 ≤ v) (h4 : v ≤ bh * 1000) : (meetR al ah bl bh).2.2 = 0 ∧ (meetR al ah bl bh).1 * 1000 ≤ v ∧ v ≤ (meetR al ah bl bh).2.1 * 1000 := by
  rw [meet_yes (by omega)]
  exact ⟨rfl, by show max _ _ * 1000 ≤ v; omega, by show v ≤ min _ _ * 1000; omega⟩
theorem sby_four {al ah bl bh : Int} (z : ¬ (bl ≤ 0 ∧ 0 ≤ bh)) : (sbyR al ah bl bh).2.2 = 0 ∨ (sbyR al ah bl bh).2.2 = 4 := by
  unfold sbyR
  rw [if_neg z]
  rcases fit_cases (mn4 (fl (al * 1000) bl) (fl (al * 1000) bh) (fl (ah * 1000) bl) (fl (ah * 1000) bh)) (mx4 (ce (al * 1000) bl) (ce (al * 1000) bh) (ce (ah * 1000) bl) (ce (ah * 1000) bh)) with e | ⟨e, -, -⟩
  · right; rw [e]
  · left; rw [e]
theorem back_parts {xl xh cl ch yl yh x y : Int} (h1 : xl ≤ x) (h2 : x ≤ xh) (h3 : cl * 1000 ≤ x * y) (h4 : x * y ≤ ch * 1000) (h5 : yl ≤ y) (h6 : y ≤ yh) :
    ((backR xl xh cl ch yl yh).2.2 = 0 ∨ (backR xl xh cl ch yl yh).2.2 = 4) ∧ ((backR xl xh cl ch yl yh).2.2 = 0 → (backR xl xh cl ch yl yh).1 ≤ x ∧ x ≤ (backR xl xh cl ch yl yh).2.1) := by
  unfold backR
  by_cases z : yl ≤ 0 ∧ 0 ≤ yh
  · rw [if_pos z]; exact ⟨.inl rfl, fun _ => ⟨h1, h2⟩⟩
  · rw [if_neg z]
    by_cases u : (sbyR cl ch yl yh).2.2 = 0
    · rw [if_pos u]
      have k := sby_parts (V := x * y) (W := y) (K := x) (D1 := 1000) (D2 := 1) (by decide) (by decide) h3 h4 (by omega) (by omega) (by omega) (by omega) u
      have m := meet_keeps h1 h2 k.1 k.2
      exact ⟨.inl m.1, fun _ => m.2⟩
    · rw [if_neg u]
      exact ⟨.inr ((sby_four z).resolve_left u), fun h => absurd h u⟩
theorem ntimes_parts {xl xh yl yh zl zh a b : Int} (h1 : xl ≤ a) (h2 : a ≤ xh) (h3 : yl ≤ b) (h4 : b ≤ yh) (h5 : zl * 1000 ≤ a * b) (h6 : a * b ≤ zh * 1000) :
    ((ntimesR xl xh yl yh zl zh).2.2.2 = 0 ∨ (ntimesR xl xh yl yh zl zh).2.2.2 = 4) ∧ ((ntimesR xl xh yl yh zl zh).2.2.2 = 0 → ((ntimesR xl xh yl yh zl zh).1.1 ≤ a ∧ a ≤ (ntimesR xl xh yl yh zl zh).1.2) ∧ ((ntimesR xl xh yl yh zl zh).2.1.1 ≤ b ∧ b ≤ (ntimesR xl xh yl yh zl zh).2.1.2) ∧ ((ntimesR xl xh yl yh zl zh).2.2.1.1 * 1000 ≤ a * b ∧ a * b ≤ (ntimesR xl xh yl yh zl zh).2.2.1.2 * 1000)) := by
  obtain ⟨T, eT⟩ : ∃ T, stimesR xl xh yl yh = T := ⟨_, rfl⟩
  obtain ⟨C, eC⟩ : ∃ C, meetR zl zh T.1 T.2.1 = C := ⟨_, rfl⟩
  obtain ⟨A, eA⟩ : ∃ A, backR xl xh C.1 C.2.1 yl yh = A := ⟨_, rfl⟩
  obtain ⟨B, eB⟩ : ∃ B, backR yl yh C.1 C.2.1 A.1 A.2.1 = B := ⟨_, rfl⟩
  rw [ntimes_is eT eC eA eB]
  by_cases t : T.2.2 = 0
  · rw [if_pos t]
    obtain ⟨_, _, kt1, kt2⟩ := stimes_has h1 h2 h3 h4 (by rw [eT]; exact t)
    rw [eT] at kt1 kt2
    have kc := meet_parts h5 h6 kt1 kt2
    rw [eC] at kc
    rw [if_pos kc.1]
    have ka := back_parts h1 h2 kc.2.1 kc.2.2 h3 h4
    rw [eA] at ka
    by_cases a0 : A.2.2 = 0
    · rw [if_pos a0]
      have k2 := ka.2 a0
      have kb := back_parts (x := b) (y := a) h3 h4 (by rw [Int.mul_comm b a]; exact kc.2.1) (by rw [Int.mul_comm b a]; exact kc.2.2) k2.1 k2.2
      rw [eB] at kb
      by_cases b0 : B.2.2 = 0
      · rw [if_pos b0]
        exact ⟨.inl rfl, fun _ => ⟨k2, kb.2 b0, kc.2⟩⟩
      · rw [if_neg b0]; exact ⟨.inr (kb.1.resolve_left b0), fun h => absurd h b0⟩
    · rw [if_neg a0]; exact ⟨.inr (ka.1.resolve_left a0), fun h => absurd h a0⟩
  · rw [if_neg t]
    have f := stimes_fault xl xh yl yh
    rw [eT] at f
    refine ⟨.inr ?_, fun h => absurd h t⟩
    show T.2.2 = 4
    rw [f.resolve_left t]
/-- The polynomial that is one product. -/
def one2 : List Tm := [(1000, 1, 1, 0)]
theorem one2_ex (a b : Int) : exS one2 [a, b] 1 = a * b * 1000000 := by
  have e : exS one2 [a, b] 1 = 0 + (1000 * a ^ 1) * b ^ 1 * 1000 ^ 1 := rfl
  rw [e, Int.pow_one, Int.pow_one, Int.pow_one]
  grind
theorem one2_form : formF one2 2 = 0 := by decide
theorem fl_parts (v : Int) : fl (v * 1000000) 1000000000 = fl v 1000 := by
  have s := fl_spec_pos (n := v * 1000000) (d := 1000000000) (by decide)
  have t := fl_spec_pos (n := v) (d := 1000) (by decide)
  omega
theorem one2_at {a b : Int} (ha1 : -20000 ≤ a) (ha2 : a ≤ 20000) (hb1 : -20000 ≤ b) (hb2 : b ≤ 20000) : atAll one2 [a, b] = (fl (a * b) 1000, 0) := by
  have n0 : numsF [a, b] = 0 := nums_ok.2 fun i hi => by
    rcases (by simp at hi; omega : i = 0 ∨ i = 1) with rfl | rfl
    · exact ⟨ha1, ha2⟩
    · exact ⟨hb1, hb2⟩
  have c : atF one2 [a, b] = 0 := at_ok.2 ⟨one2_form, n0⟩
  have hb : bysP one2 := fun i hi => by
    obtain rfl : i = 0 := by simp [one2] at hi; omega
    exact ⟨by decide, by decide⟩
  have e : exS one2 [a, b] one2.length = a * b * 1000000 := one2_ex a b
  obtain ⟨p1, p2⟩ := mul_by (A := 20000) (B := 20000) ha1 ha2 hb1 hb2 (by decide)
  have t := fl_spec_pos (n := a * b) (d := 1000) (by decide)
  have hm : may (fl (exS one2 [a, b] one2.length) 1000000000) = true := by
    rw [e, fl_parts]
    exact (may_iff _).2 ⟨by omega, by omega⟩
  unfold atAll
  rw [if_pos c, pt_yes hb hm, e, fl_parts]
/-- Numbers of a box, their product out of the range: what narrowing tells. -/
theorem top_narrow {xl xh yl yh a b : Int} (hS : (frAll one2 [(xl, xh), (yl, yh)]).2.2 = 0) (h1 : xl ≤ a) (h2 : a ≤ xh) (h3 : yl ≤ b) (h4 : b ≤ yh) :
    ((frAll one2 [(xl, xh), (yl, yh)]).1 ≤ fl (a * b) 1000 ∧ fl (a * b) 1000 ≤ (frAll one2 [(xl, xh), (yl, yh)]).2.1) ∧
    (let N := ntimesAll xl xh yl yh (frAll one2 [(xl, xh), (yl, yh)]).1 (frAll one2 [(xl, xh), (yl, yh)]).2.1
     (N.2.2.2 = 0 ∨ N.2.2.2 = 4) ∧ (N.2.2.2 = 0 → (N.1.1 ≤ a ∧ a ≤ N.1.2) ∧ (N.2.1.1 ≤ b ∧ b ≤ N.2.1.2) ∧ (N.2.2.1.1 ≤ fl (a * b) 1000 ∧ fl (a * b) 1000 ≤ N.2.2.1.2))) := by
  have hx : hasP [(xl, xh), (yl, yh)] [a, b] := fun i hi => by
    rcases (by simp at hi; omega : i = 0 ∨ i = 1) with rfl | rfl
    · exact ⟨h1, h2⟩
    · exact ⟨h3, h4⟩
  have k := fr_has (x := [a, b]) rfl hx hS
  have e : exS one2 [a, b] one2.length = a * b * 1000000 := one2_ex a b
  rw [e, fl_parts] at k
  obtain ⟨g0, g1, g2⟩ := fr_good hS
  obtain ⟨gb, gf⟩ := fr_ok.1 g0
  obtain ⟨s1, s2⟩ := sum_has (fr_terms gf) gb hx rfl (Nat.le_refl _) g2
  rw [e] at s1 s2
  have gc := sum_chk (fr_terms gf) gb (Nat.le_refl _) g2
  have hs := (box_ok.1 gb).2.2
  have cx : chk xl xh = 0 := hs (xl, xh) (by simp)
  have cy : chk yl yh = 0 := hs (yl, yh) (by simp)
  refine ⟨k, ?_⟩
  have t := fl_spec_pos (n := a * b) (d := 1000) (by decide)
  show _ ∧ _
  rw [g1]
  have gc' : chk (frR one2 [(xl, xh), (yl, yh)]).1 (frR one2 [(xl, xh), (yl, yh)]).2.1 = 0 := gc
  rw [ntimesAll_yes (nar_ok.2 ⟨cx, cy, gc'⟩)]
  have s1' : (frR one2 [(xl, xh), (yl, yh)]).1 * 1000 ≤ a * b := by unfold frR; omega
  have s2' : a * b ≤ (frR one2 [(xl, xh), (yl, yh)]).2.1 * 1000 := by unfold frR; omega
  obtain ⟨p1, p2⟩ := ntimes_parts h1 h2 h3 h4 s1' s2'
  refine ⟨p1, fun h => ?_⟩
  obtain ⟨q1, q2, q3, q4⟩ := p2 h
  exact ⟨q1, q2, by omega, by omega⟩
end Um
namespace Um
set_option linter.unusedSimpArgs false

/-- How a polynomial changes by an unknown, at anything. -/
def steepAll (f : List Tm) (sides k : Int) : List Tm × Int := if formF f sides = 0 then (if 0 ≤ k ∧ k < sides then steepN f k.toNat f.length else ([], 1)) else ([], formF f sides)
theorem steepAll_form {f : List Tm} {sides k : Int} (h : ¬ formF f sides = 0) : steepAll f sides k = ([], formF f sides) := by unfold steepAll; rw [if_neg h]
theorem steepAll_none {f : List Tm} {sides k : Int} (h : formF f sides = 0) (h2 : ¬ (0 ≤ k ∧ k < sides)) : steepAll f sides k = ([], 1) := by unfold steepAll; rw [if_pos h, if_neg h2]
theorem steepAll_yes {f : List Tm} {sides k : Int} (h : formF f sides = 0) (h2 : 0 ≤ k ∧ k < sides) : steepAll f sides k = steepN f k.toNat f.length := by unfold steepAll; rw [if_pos h, if_pos h2]
theorem steep_fault (f : List Tm) (k i : Nat) : (steepN f k i).2 = 0 ∨ steepN f k i = ([], 4) := by
  cases i with
  | zero => exact .inl rfl
  | succ i =>
    rw [steep_succ]
    by_cases c : (steepN f k i).2 = 0
    · rw [if_pos c]
      by_cases d : tmT (tm f i) k = 0
      · rw [if_pos d]; exact .inl c
      · rw [if_neg d]
        by_cases m : may (stT (tm f i) k).1 = true
        · rw [if_pos m]; exact .inl rfl
        · rw [if_neg m]; exact .inr rfl
    · rw [if_neg c]; exact .inr rfl
theorem steep_stay {f : List Tm} {k i : Nat} (h : ¬ (steepN f k i).2 = 0) : ∀ {n : Nat}, i ≤ n → steepN f k n = ([], 4) := by
  intro n hn
  induction n with
  | zero => obtain rfl : i = 0 := by omega
            exact absurd rfl h
  | succ n ih =>
    rcases (by omega : i = n + 1 ∨ i ≤ n) with rfl | g
    · exact (steep_fault _ _ _).resolve_left h
    · rw [steep_succ, ih g, if_neg (by decide)]
theorem steep_skip {f : List Tm} {k i : Nat} (h : (steepN f k i).2 = 0) (h2 : tmT (tm f i) k = 0) : steepN f k (i + 1) = steepN f k i := by rw [steep_succ, if_pos h, if_pos h2]
theorem steep_more {f : List Tm} {k i : Nat} (h : (steepN f k i).2 = 0) (h2 : ¬ tmT (tm f i) k = 0) (h3 : may (stT (tm f i) k).1 = true) : steepN f k (i + 1) = ((steepN f k i).1 ++ [stT (tm f i) k], 0) := by rw [steep_succ, if_pos h, if_neg h2, if_pos h3]
theorem steep_full {f : List Tm} {k i n : Nat} (hi : i < n) (h : (steepN f k i).2 = 0) (h2 : ¬ tmT (tm f i) k = 0) (h3 : ¬ may (stT (tm f i) k).1 = true) : steepN f k n = ([], 4) := by
  have e : steepN f k (i + 1) = ([], 4) := by rw [steep_succ, if_pos h, if_neg h2, if_neg h3]
  exact steep_stay (i := i + 1) (by rw [e]; decide) hi
theorem steep_len (f : List Tm) (k : Nat) : ∀ i, (steepN f k i).1.length ≤ i
  | 0 => Nat.le_refl _
  | i + 1 => by
    have ih := steep_len f k i
    rw [steep_succ]
    repeat' split
    all_goals simp
    all_goals omega
/-- Of a right polynomial what it changes by is right, too. -/
theorem steep_ok2 {f : List Tm} {n k : Nat} (hf : ∀ i, i < f.length → tmP (tm f i) ∧ ¬ tmO (tm f i) n) : ∀ {i : Nat}, i ≤ f.length → (steepN f k i).2 = 0 → ∀ j, j < (steepN f k i).1.length → tmP (tm (steepN f k i).1 j) ∧ ¬ tmO (tm (steepN f k i).1 j) n
  | 0, _, _ => fun j hj => absurd hj (Nat.not_lt_zero _)
  | i + 1, hi, h => by
    by_cases c : (steepN f k i).2 = 0
    · have ih := steep_ok2 hf (i := i) (by omega) c
      by_cases d : tmT (tm f i) k = 0
      · rw [steep_skip c d]; exact ih
      · by_cases m : may (stT (tm f i) k).1 = true
        · rw [steep_more c d m]
          intro j hj
          rcases (by simp at hj; omega : j < (steepN f k i).1.length ∨ j = (steepN f k i).1.length) with g | rfl
          · have e := (tm_append (G := (steepN f k i).1) (t := stT (tm f i) k)).1 j g
            show tmP (tm ((steepN f k i).1 ++ [stT (tm f i) k]) j) ∧ _
            rw [e]; exact ih j g
          · have e := (tm_append (G := (steepN f k i).1) (t := stT (tm f i) k)).2
            show tmP (tm ((steepN f k i).1 ++ [stT (tm f i) k]) _) ∧ ¬ tmO (tm ((steepN f k i).1 ++ [stT (tm f i) k]) _) n
            rw [e]; exact st_ok (hf i (by omega)).1 (hf i (by omega)).2 d m
        · rw [steep_succ, if_pos c, if_neg d, if_neg m] at h; exact absurd h (by decide)
    · rw [steep_succ, if_neg c] at h; exact absurd h (by decide)
theorem form_both {f : List Tm} {n : Int} (h : formF f n = 0) : ∀ i, i < f.length → tmP (tm f i) ∧ ¬ tmO (tm f i) n := fun i hi => term_ok.1 ((form_ok.1 h).2.2 i hi)
theorem steep_form {f : List Tm} {n k : Nat} (h : formF f n = 0) (hs : (steepN f k f.length).2 = 0) : formF (steepN f k f.length).1 n = 0 := by
  have hl := steep_len f k f.length
  obtain ⟨h1, h2, _⟩ := form_ok.1 h
  exact form_ok.2 ⟨h1, by omega, fun i hi => term_ok.2 (steep_ok2 (form_both h) (Nat.le_refl _) hs i hi)⟩
/-- Over a box the range of what a right polynomial changes by: no more can be wrong. -/
theorem steep_range {f : List Tm} {b : List (Int × Int)} {k : Nat} (h : formF f b.length = 0) (hb : boxF b = 0) (hs : (steepN f k f.length).2 = 0) : frAll (steepN f k f.length).1 b = frR (steepN f k f.length).1 b := by
  unfold frAll
  rw [if_pos (fr_ok.2 ⟨hb, steep_form h hs⟩)]
/-- How far each range is from 0, added up; the fault. -/
def bsum (f : List Tm) (b : List (Int × Int)) : Nat → Int × Int
  | 0 => (0, 0)
  | k + 1 => if (bsum f b k).2 = 0 then (if (steepN f k f.length).2 = 0 then (if (frR (steepN f k f.length).1 b).2.2 = 0 then ((bsum f b k).1 + (farR (frR (steepN f k f.length).1 b).1 (frR (steepN f k f.length).1 b).2.1).2, 0) else (0, 4)) else (0, 4)) else (0, 4)
theorem bsum_succ (f : List Tm) (b : List (Int × Int)) (k : Nat) : bsum f b (k + 1) = if (bsum f b k).2 = 0 then (if (steepN f k f.length).2 = 0 then (if (frR (steepN f k f.length).1 b).2.2 = 0 then ((bsum f b k).1 + (farR (frR (steepN f k f.length).1 b).1 (frR (steepN f k f.length).1 b).2.1).2, 0) else (0, 4)) else (0, 4)) else (0, 4) := rfl
theorem bsum_fault (f : List Tm) (b : List (Int × Int)) (k : Nat) : (bsum f b k).2 = 0 ∨ bsum f b k = (0, 4) := by
  cases k with
  | zero => exact .inl rfl
  | succ k =>
    rw [bsum_succ]
    repeat' split
    all_goals first | exact .inl rfl | exact .inr rfl
theorem bsum_step {f : List Tm} {b : List (Int × Int)} {k : Nat} (h : (bsum f b (k + 1)).2 = 0) : (bsum f b k).2 = 0 ∧ (steepN f k f.length).2 = 0 ∧ (frR (steepN f k f.length).1 b).2.2 = 0 ∧ bsum f b (k + 1) = ((bsum f b k).1 + (farR (frR (steepN f k f.length).1 b).1 (frR (steepN f k f.length).1 b).2.1).2, 0) := by
  rw [bsum_succ] at h ⊢
  by_cases c : (bsum f b k).2 = 0
  · rw [if_pos c] at h ⊢
    by_cases d : (steepN f k f.length).2 = 0
    · rw [if_pos d] at h ⊢
      by_cases e : (frR (steepN f k f.length).1 b).2.2 = 0
      · rw [if_pos e]; exact ⟨c, d, e, rfl⟩
      · rw [if_neg e] at h; exact absurd h (by decide)
    · rw [if_neg d] at h; exact absurd h (by decide)
  · rw [if_neg c] at h; exact absurd h (by decide)
theorem bsum_stay {f : List Tm} {b : List (Int × Int)} {k : Nat} (h : ¬ (bsum f b k).2 = 0) : ∀ {n : Nat}, k ≤ n → bsum f b n = (0, 4) := by
  intro n hn
  induction n with
  | zero => obtain rfl : k = 0 := by omega
            exact absurd rfl h
  | succ n ih =>
    rcases (by omega : k = n + 1 ∨ k ≤ n) with rfl | g
    · exact (bsum_fault _ _ _).resolve_left h
    · rw [bsum_succ, ih g, if_neg (by decide)]
theorem bsum_ok {f : List Tm} {b : List (Int × Int)} : ∀ {k : Nat}, (bsum f b k).2 = 0 → (bsum f b k).1 = farS f b k ∧ ∀ j, j < k → (steepN f j f.length).2 = 0 ∧ (frR (steepN f j f.length).1 b).2.2 = 0
  | 0, _ => ⟨rfl, fun j hj => absurd hj (Nat.not_lt_zero _)⟩
  | k + 1, h => by
    obtain ⟨h0, h1, h2, e⟩ := bsum_step h
    obtain ⟨g1, g2⟩ := bsum_ok h0
    refine ⟨?_, fun j hj => ?_⟩
    · rw [e]
      show (bsum f b k).1 + _ = farS f b k + _
      rw [g1]
    · rcases (by omega : j < k ∨ j = k) with c | rfl
      · exact g2 j c
      · exact ⟨h1, h2⟩
theorem far_small {lo hi : Int} (h : chk lo hi = 0) : 0 ≤ (farR lo hi).2 ∧ (farR lo hi).2 ≤ 1000000000 := by
  obtain ⟨m1, m2, -⟩ := chk_ok.1 h
  obtain ⟨a1, a2⟩ := (may_iff _).1 m1
  obtain ⟨a3, a4⟩ := (may_iff _).1 m2
  unfold farR ab
  show 0 ≤ max _ _ ∧ max _ _ ≤ _
  repeat' split
  all_goals omega
/-- No sum of these goes round. -/
theorem bsum_small {f : List Tm} {b : List (Int × Int)} (hf : formF f b.length = 0) (hb : boxF b = 0) : ∀ {k : Nat}, (bsum f b k).2 = 0 → 0 ≤ (bsum f b k).1 ∧ (bsum f b k).1 ≤ 1000000000 * k
  | 0, _ => ⟨Int.le_refl _, by simp [bsum]⟩
  | k + 1, h => by
    obtain ⟨h0, h1, h2, e⟩ := bsum_step h
    obtain ⟨g1, g2⟩ := bsum_small hf hb h0
    have hc : chk (frR (steepN f k f.length).1 b).1 (frR (steepN f k f.length).1 b).2.1 = 0 := sum_chk (fr_terms (steep_form hf h1)) hb (Nat.le_refl _) h2
    have s := far_small hc
    rw [e]
    show 0 ≤ (bsum f b k).1 + _ ∧ (bsum f b k).1 + _ ≤ _
    omega
/-- The bound of a step, the first i polynomials; the fault. -/
def bndN (s : List (List Tm)) (b : List (Int × Int)) : Nat → Int × Int
  | 0 => (0, 0)
  | i + 1 => if (bndN s b i).2 = 0 then (if (bsum (nx s i) b b.length).2 = 0 then (if may (bsum (nx s i) b b.length).1 = true then (max (bndN s b i).1 (bsum (nx s i) b b.length).1, 0) else (0, 4)) else (0, 4)) else (0, 4)
theorem bndN_succ (s : List (List Tm)) (b : List (Int × Int)) (i : Nat) : bndN s b (i + 1) = if (bndN s b i).2 = 0 then (if (bsum (nx s i) b b.length).2 = 0 then (if may (bsum (nx s i) b b.length).1 = true then (max (bndN s b i).1 (bsum (nx s i) b b.length).1, 0) else (0, 4)) else (0, 4)) else (0, 4) := rfl
theorem bndN_fault (s : List (List Tm)) (b : List (Int × Int)) (i : Nat) : (bndN s b i).2 = 0 ∨ bndN s b i = (0, 4) := by
  cases i with
  | zero => exact .inl rfl
  | succ i =>
    rw [bndN_succ]
    repeat' split
    all_goals first | exact .inl rfl | exact .inr rfl
theorem bndN_stay {s : List (List Tm)} {b : List (Int × Int)} {i : Nat} (h : ¬ (bndN s b i).2 = 0) : ∀ {n : Nat}, i ≤ n → bndN s b n = (0, 4) := by
  intro n hn
  induction n with
  | zero => obtain rfl : i = 0 := by omega
            exact absurd rfl h
  | succ n ih =>
    rcases (by omega : i = n + 1 ∨ i ≤ n) with rfl | g
    · exact (bndN_fault _ _ _).resolve_left h
    · rw [bndN_succ, ih g, if_neg (by decide)]
theorem bndN_step {s : List (List Tm)} {b : List (Int × Int)} {i : Nat} (h : (bndN s b (i + 1)).2 = 0) : (bndN s b i).2 = 0 ∧ (bsum (nx s i) b b.length).2 = 0 ∧ may (bsum (nx s i) b b.length).1 = true ∧ bndN s b (i + 1) = (max (bndN s b i).1 (bsum (nx s i) b b.length).1, 0) := by
  rw [bndN_succ] at h ⊢
  by_cases c : (bndN s b i).2 = 0
  · rw [if_pos c] at h ⊢
    by_cases d : (bsum (nx s i) b b.length).2 = 0
    · rw [if_pos d] at h ⊢
      by_cases e : may (bsum (nx s i) b b.length).1 = true
      · rw [if_pos e]; exact ⟨c, d, e, rfl⟩
      · rw [if_neg e] at h; exact absurd h (by decide)
    · rw [if_neg d] at h; exact absurd h (by decide)
  · rw [if_neg c] at h; exact absurd h (by decide)
theorem bndN_ok {s : List (List Tm)} {b : List (Int × Int)} : ∀ {i : Nat}, (bndN s b i).2 = 0 → 0 ≤ (bndN s b i).1 ∧ (bndN s b i).1 ≤ 1000000000 ∧ ∀ j, j < i → (bsum (nx s j) b b.length).2 = 0 ∧ (bsum (nx s j) b b.length).1 ≤ (bndN s b i).1
  | 0, _ => ⟨Int.le_refl _, by show (0 : Int) ≤ 1000000000; decide, fun j hj => absurd hj (Nat.not_lt_zero _)⟩
  | i + 1, h => by
    obtain ⟨h0, h1, h2, e⟩ := bndN_step h
    obtain ⟨g0, g1, g2⟩ := bndN_ok h0
    obtain ⟨m1, m2⟩ := (may_iff _).1 h2
    rw [e]
    refine ⟨by show 0 ≤ max _ _; omega, by show max _ _ ≤ _; omega, fun j hj => ?_⟩
    rcases (by omega : j < i ∨ j = i) with c | rfl
    · exact ⟨(g2 j c).1, by have := (g2 j c).2; show _ ≤ max _ _; omega⟩
    · exact ⟨h1, by show _ ≤ max _ _; omega⟩
def bndAll (s : List (List Tm)) (p b : List (Int × Int)) : Int × Int := if readyF s p b = 0 then bndN s b s.length else (0, readyF s p b)
theorem bndAll_not {s : List (List Tm)} {p b : List (Int × Int)} (h : ¬ readyF s p b = 0) : bndAll s p b = (0, readyF s p b) := by unfold bndAll; rw [if_neg h]
theorem bndAll_yes {s : List (List Tm)} {p b : List (Int × Int)} (h : readyF s p b = 0) : bndAll s p b = bndN s b s.length := by unfold bndAll; rw [if_pos h]
theorem bndAll_good {s : List (List Tm)} {p b : List (Int × Int)} (h : (bndAll s p b).2 = 0) : readyF s p b = 0 ∧ bndAll s p b = bndN s b s.length ∧ (bndN s b s.length).2 = 0 := by
  by_cases c : readyF s p b = 0
  · rw [bndAll_yes c] at h ⊢; exact ⟨c, rfl, h⟩
  · rw [bndAll_not c] at h; exact absurd h c
/-- Does it pull together; the fault. -/
def pullAll (s : List (List Tm)) (p b : List (Int × Int)) : Bool × Int := if (bndAll s p b).2 = 0 then (if (ofAll s p b).2 = 0 then (decide ((bndAll s p b).1 < 1000) && withinB (ofAll s p b).1 b, 0) else (false, (ofAll s p b).2)) else (false, (bndAll s p b).2)
theorem pull_bound {s : List (List Tm)} {p b : List (Int × Int)} (h : ¬ (bndAll s p b).2 = 0) : pullAll s p b = (false, (bndAll s p b).2) := by unfold pullAll; rw [if_neg h]
theorem pull_next {s : List (List Tm)} {p b : List (Int × Int)} (h : (bndAll s p b).2 = 0) (h2 : ¬ (ofAll s p b).2 = 0) : pullAll s p b = (false, (ofAll s p b).2) := by unfold pullAll; rw [if_pos h, if_neg h2]
theorem pull_yes {s : List (List Tm)} {p b : List (Int × Int)} (h : (bndAll s p b).2 = 0) (h2 : (ofAll s p b).2 = 0) : pullAll s p b = (decide ((bndAll s p b).1 < 1000) && withinB (ofAll s p b).1 b, 0) := by unfold pullAll; rw [if_pos h, if_pos h2]
/-- Two points of a box, with the same pushes, behind a step. -/
theorem bnd_pulls {s : List (List Tm)} {p b : List (Int × Int)} {x y q : List Int} {far : Int} (h : (bndAll s p b).2 = 0) (hX : hasP b x) (hY : hasP b y) (hu : (movAll s p x q).2 = 0) (hv : (movAll s p y q).2 = 0) (h0 : 0 ≤ far) (hfar : ∀ k, k < x.length → ab (nm x k - nm y k) ≤ far) :
    ∀ i, i < (movAll s p x q).1.length → ab (nm (movAll s p x q).1 i - nm (movAll s p y q).1 i) * 1000 ≤ (bndAll s p b).1 * far + 1000 := by
  obtain ⟨r, e, hn⟩ := bndAll_good h
  obtain ⟨hs, hb, hl⟩ := ready_ok.1 r
  obtain ⟨fu, eu, nu⟩ := movAll_good hu
  obtain ⟨fv, ev, nv⟩ := movAll_good hv
  obtain ⟨-, ⟨lx, -⟩, -, -⟩ := mov_ok.1 fu
  obtain ⟨-, ⟨ly, -⟩, -, -⟩ := mov_ok.1 fv
  obtain ⟨lu, gu⟩ := movN_ok nu
  obtain ⟨-, gv⟩ := movN_ok nv
  intro i hi
  rw [eu] at hi
  rw [lu] at hi
  obtain ⟨pu, au, -⟩ := gu i hi
  obtain ⟨pv, av, -⟩ := gv i hi
  rw [eu, ev, au, av, e]
  obtain ⟨-, -, hm⟩ := bndN_ok hn
  obtain ⟨c1, c2⟩ := hm i hi
  obtain ⟨d1, d2⟩ := bsum_ok c1
  have hf : formF (nx s i) b.length = 0 := by
    rw [hl]
    exact (sys_ok.1 hs).2.2.2.1 _ (nx_mem hi)
  have k := near_all (far := far) (B := (bndN s b s.length).1) (form_both hf) hb hX hY (lx.trans hl.symm) (ly.trans hl.symm) d2 (fun k hk => hfar k (by rw [lx, ← hl]; exact hk)) h0 (by rw [← d1]; exact c2)
  have p1 : (ptR (nx s i) x).1 = fl (exS (nx s i) x (nx s i).length) 1000000000 := by
    unfold ptR at pu ⊢
    split at pu
    · rename_i hby
      rw [if_pos hby]
      split at pu
      · rename_i hmay; rw [if_pos hmay]
      · exact absurd pu (by decide)
    · exact absurd pu (by decide)
  have p2 : (ptR (nx s i) y).1 = fl (exS (nx s i) y (nx s i).length) 1000000000 := by
    unfold ptR at pv ⊢
    split at pv
    · rename_i hby
      rw [if_pos hby]
      split at pv
      · rename_i hmay; rw [if_pos hmay]
      · exact absurd pv (by decide)
    · exact absurd pv (by decide)
  rw [p1, p2]
  rw [show ∀ A B C : Int, A + C - (B + C) = A - B from fun A B C => by omega]
  exact k
end Um
namespace Um
set_option linter.unusedSimpArgs false

/-- The greatest distance, the first k. -/
def farN (x y : List Int) : Nat → Int
  | 0 => 0
  | k + 1 => max (farN x y k) (ab (nm x k - nm y k))
theorem farN_succ (x y : List Int) (k : Nat) : farN x y (k + 1) = max (farN x y k) (ab (nm x k - nm y k)) := rfl
theorem farN_has (x y : List Int) : ∀ k, 0 ≤ farN x y k ∧ ∀ j, j < k → ab (nm x j - nm y j) ≤ farN x y k
  | 0 => ⟨Int.le_refl _, fun j hj => absurd hj (Nat.not_lt_zero _)⟩
  | k + 1 => by
    obtain ⟨h0, h1⟩ := farN_has x y k
    refine ⟨by show 0 ≤ max _ _; omega, fun j hj => ?_⟩
    show _ ≤ max _ _
    rcases (by omega : j < k ∨ j = k) with c | rfl
    · have := h1 j c; omega
    · omega
theorem farN_most {x y : List Int} {M : Int} (hM : 0 ≤ M) : ∀ k, (∀ j, j < k → ab (nm x j - nm y j) ≤ M) → farN x y k ≤ M
  | 0, _ => hM
  | k + 1, h => by
    have h0 := farN_most hM k (fun j hj => h j (by omega))
    have h1 := h k (by omega)
    show max _ _ ≤ M
    omega
theorem farN_by {x y : List Int} {M : Int} (hM : 0 ≤ M) : ∀ k, (∀ j, j < k → ab (nm x j - nm y j) * 1000 ≤ M) → farN x y k * 1000 ≤ M
  | 0, _ => by show 0 * 1000 ≤ M; omega
  | k + 1, h => by
    have h0 := farN_by hM k (fun j hj => h j (by omega))
    have h1 := h k (by omega)
    show max _ _ * 1000 ≤ M
    omega
theorem has_small {b : List (Int × Int)} {x : List Int} (hb : boxF b = 0) (hx : hasP b x) (hl : x.length = b.length) : ∀ j, j < x.length → -1000000000 ≤ nm x j ∧ nm x j ≤ 1000000000 := fun j hj => by
  have h := hx j (by omega)
  have c := (box_ok.1 hb).2.2 _ (sd_mem (show j < b.length by omega))
  obtain ⟨m1, m2, -⟩ := chk_ok.1 c
  have a := (may_iff _).1 m1
  have d := (may_iff _).1 m2
  omega
theorem mov_small {s : List (List Tm)} {p : List (Int × Int)} {x q : List Int} (h : (movAll s p x q).2 = 0) : ∀ j, j < (movAll s p x q).1.length → -1000000000 ≤ nm (movAll s p x q).1 j ∧ nm (movAll s p x q).1 j ≤ 1000000000 := fun j hj => by
  obtain ⟨-, e, n0⟩ := movAll_good h
  obtain ⟨l, g⟩ := movN_ok n0
  rw [e] at hj ⊢
  rw [l] at hj
  obtain ⟨-, g2, g3⟩ := g j hj
  rw [g2]
  exact (may_iff _).1 g3
theorem ab_small {a b : Int} (h1 : -1000000000 ≤ a ∧ a ≤ 1000000000) (h2 : -1000000000 ≤ b ∧ b ≤ 1000000000) : 0 ≤ ab (a - b) ∧ ab (a - b) ≤ 2000000000 := by
  unfold ab
  split <;> omega
theorem farN_small {x y : List Int} {k : Nat} (h1 : ∀ j, j < k → -1000000000 ≤ nm x j ∧ nm x j ≤ 1000000000) (h2 : ∀ j, j < k → -1000000000 ≤ nm y j ∧ nm y j ≤ 1000000000) : farN x y k ≤ 2000000000 :=
  farN_most (by omega) k fun j hj => (ab_small (h1 j hj) (h2 j hj)).2
/-- n times the distance, and one thousand: no more than 64 bits hold. -/
theorem bound_small {n d : Int} (h1 : 0 ≤ n) (h2 : n ≤ 1000000000) (h3 : 0 ≤ d) (h4 : d ≤ 2000000000) : 0 ≤ n * d ∧ n * d ≤ 2000000000000000000 := by
  refine ⟨Int.mul_nonneg h1 h3, ?_⟩
  exact Int.le_trans (Int.mul_le_mul h2 h4 h3 (by omega)) (by decide)
theorem has_whole {b : List (Int × Int)} {x : List Int} (h : hasF b x = 0) (g : hasB b x = true) : hasP b x ∧ x.length = b.length ∧ boxF b = 0 := by
  unfold hasF at h
  by_cases c : boxF b = 0
  · rw [if_pos c] at h
    by_cases d : x.length = b.length
    · exact ⟨of_decide_eq_true g, d, c⟩
    · rw [if_neg d] at h; exact absurd h (by decide)
  · rw [if_neg c] at h; exact absurd h c
/-- Of a box that pulls together: what is known. -/
theorem pull_parts {s : List (List Tm)} {p b : List (Int × Int)} (h : (pullAll s p b).1 = true) (h2 : (pullAll s p b).2 = 0) : (bndAll s p b).2 = 0 ∧ (ofAll s p b).2 = 0 ∧ (bndAll s p b).1 < 1000 ∧ isB s p b = true ∧ withinP (ofAll s p b).1 b := by
  by_cases c : (bndAll s p b).2 = 0
  · by_cases d : (ofAll s p b).2 = 0
    · rw [pull_yes c d] at h
      obtain ⟨g1, g2⟩ := Bool.and_eq_true_iff.1 h
      refine ⟨c, d, of_decide_eq_true g1, ?_, of_decide_eq_true g2⟩
      unfold isB
      rw [g2, decide_eq_true d]
      rfl
    · rw [pull_next c d] at h2; exact absurd h2 d
  · rw [pull_bound c] at h2; exact absurd h2 c
/-- Two paths of it, with the same pushes: each point is in the box; how far apart they are. -/
theorem pull_path {s : List (List Tm)} {p b : List (Int × Int)} {x y : List Int} {u : List (List Int)} (h : (pullAll s p b).1 = true) (h2 : (pullAll s p b).2 = 0) (hX : hasP b x) (hY : hasP b y) (lx : x.length = b.length) (ly : y.length = b.length) (hp : (pathN s p x u u.length).2 = 0) (hq : (pathN s p y u u.length).2 = 0) :
    ∀ k, k ≤ u.length → (hasP b (pathN s p x u k).1 ∧ (pathN s p x u k).1.length = b.length) ∧ (hasP b (pathN s p y u k).1 ∧ (pathN s p y u k).1.length = b.length) := by
  obtain ⟨-, g2, -, -, g5⟩ := pull_parts h h2
  obtain ⟨r0, e, r2⟩ := ofAll_good g2
  rw [e] at g5
  intro k hk
  exact ⟨path_holds r0 r2 g5 hX lx (path_down hp hk), path_holds r0 r2 g5 hY ly (path_down hq hk)⟩
theorem pull_next_far {s : List (List Tm)} {p b : List (Int × Int)} {x y : List Int} {u : List (List Int)} (h : (pullAll s p b).1 = true) (h2 : (pullAll s p b).2 = 0) (hX : hasP b x) (hY : hasP b y) (lx : x.length = b.length) (ly : y.length = b.length) (hp : (pathN s p x u u.length).2 = 0) (hq : (pathN s p y u u.length).2 = 0) {k : Nat} (hk : k < u.length) :
    farN (pathN s p x u (k + 1)).1 (pathN s p y u (k + 1)).1 b.length * 1000 ≤ (bndAll s p b).1 * farN (pathN s p x u k).1 (pathN s p y u k).1 b.length + 1000 := by
  obtain ⟨g1, -, -, -, -⟩ := pull_parts h h2
  have w := pull_path h h2 hX hY lx ly hp hq k (by omega)
  have w1 := pull_path h h2 hX hY lx ly hp hq (k + 1) (by omega)
  obtain ⟨-, e1⟩ := path_step (path_down hp (show k + 1 ≤ u.length by omega))
  obtain ⟨-, e2⟩ := path_step (path_down hq (show k + 1 ≤ u.length by omega))
  have n1 := path_down hp (show k + 1 ≤ u.length by omega)
  have n2 := path_down hq (show k + 1 ≤ u.length by omega)
  have f := farN_has (pathN s p x u k).1 (pathN s p y u k).1 b.length
  obtain ⟨-, eb, hb⟩ := bndAll_good g1
  have b0 := (bndN_ok hb).1
  rw [← eb] at b0
  refine farN_by (by have := Int.mul_nonneg b0 f.1; omega) _ fun j hj => ?_
  rw [e1] at n1 w1 ⊢
  rw [e2] at n2 w1 ⊢
  exact bnd_pulls g1 w.1.1 w.2.1 n1 n2 f.1 (fun i hi => f.2 i (by omega)) j (by omega)
end Um
